package tests

import (
	"slices"
	"strconv"

	"loop.example/g00145/impl"
)

// The chapter said a second time, plainly, for comparison over many graphs and moves.

// modelToken is a token and where it lies. All of a pipe's stand in one row, in the order in which they came there.
type modelToken struct {
	node int
	impl.Token
}

// modelPipe keeps every tick at which something failed since it was last aborted by faults; what a pipe's Faults are follows.
type modelPipe struct {
	g       []impl.Node
	tick    int
	items   int
	closed  bool
	tokens  []modelToken
	emitted []impl.Out
	failed  []impl.Lost
	ticks   []int
}

func (p *modelPipe) at(node int) []impl.Token {
	var box []impl.Token
	for _, t := range p.tokens {
		if t.node == node {
			box = append(box, t.Token)
		}
	}
	return box
}

func (p *modelPipe) first(node int) int {
	return slices.IndexFunc(p.tokens, func(t modelToken) bool { return t.node == node })
}

func (p *modelPipe) faults() []int {
	var near []int
	for _, tick := range p.ticks {
		if tick+10 > p.ticks[len(p.ticks)-1] {
			near = append(near, tick)
		}
	}
	return near
}

func (p *modelPipe) pipe() impl.Pipe {
	boxes := make([][]impl.Token, len(p.g))
	for node := range p.g {
		boxes[node] = p.at(node)
	}
	return impl.Pipe{Tick: p.tick, Items: p.items, Closed: p.closed, Boxes: boxes,
		Emitted: slices.Clone(p.emitted), Failed: slices.Clone(p.failed), Faults: p.faults()}
}

// code asks only; change is asked only of moves whose code is 0.
func (p *modelPipe) code(m impl.Move) int {
	switch m.Kind {
	case impl.MoveOffer:
		sources, _ := modelSourcesOf(p.g)
		switch {
		case !slices.Contains(sources, m.Node), !modelIsValue(m.Value):
			return impl.PipeNone
		case p.closed:
			return impl.PipeClosed
		case len(p.at(m.Node)) == p.g[m.Node].Cap:
			return impl.PipeFull
		}
		return impl.PipeOk
	case impl.MoveStep, impl.MoveFault:
		return p.codeAt(m)
	case impl.MoveTick:
		switch {
		case !modelIsIn(0, m.Value, 1000):
			return impl.PipeNone
		case p.tick+m.Value > 1000000:
			return impl.PipeFull
		}
		return impl.PipeOk
	case impl.MoveDrain:
		return map[bool]int{true: impl.PipeClosed}[p.closed]
	case impl.MoveAbort:
		return map[bool]int{true: impl.PipeClosed}[p.closed && len(p.tokens) == 0]
	}
	return impl.PipeBad
}

func (p *modelPipe) codeAt(m impl.Move) int {
	if !modelIsIn(0, m.Node, len(p.g)-1) {
		return impl.PipeNone
	}
	if p.first(m.Node) < 0 {
		return impl.PipeEmpty
	}
	out, _, _ := modelApplyStage(p.g[m.Node].Stage, p.at(m.Node)[0].Value)
	for _, next := range p.g[m.Node].Next {
		if m.Kind == impl.MoveStep && len(p.at(next))+len(out) > p.g[next].Cap {
			return impl.PipeBlocked
		}
	}
	return impl.PipeOk
}

func (p *modelPipe) change(m impl.Move) {
	switch m.Kind {
	case impl.MoveOffer:
		p.tokens = append(p.tokens, modelToken{m.Node, impl.Token{Item: p.items, Value: m.Value}})
		p.items++
	case impl.MoveStep:
		p.step(m.Node)
	case impl.MoveFault:
		p.fault(m.Node)
	case impl.MoveTick:
		p.tick += m.Value
	case impl.MoveDrain:
		p.closed = true
	case impl.MoveAbort:
		p.abort()
	}
}

func (p *modelPipe) step(node int) {
	place := p.first(node)
	t := p.tokens[place]
	out, fails, _ := modelApplyStage(p.g[node].Stage, t.Value)
	if fails {
		p.fault(node)
		return
	}
	p.tokens = slices.Delete(p.tokens, place, place+1)
	for _, value := range out {
		for _, next := range p.g[node].Next {
			p.tokens = append(p.tokens, modelToken{next, impl.Token{Item: t.Item, Value: value}})
		}
		if len(p.g[node].Next) == 0 {
			p.emitted = append(p.emitted, impl.Out{Item: t.Item, Node: node, Value: value})
		}
	}
}

func (p *modelPipe) fault(node int) {
	place := p.first(node)
	p.tokens[place].Tries++
	if t := p.tokens[place]; t.Tries == 4 {
		p.tokens = slices.Delete(p.tokens, place, place+1)
		p.failed = append(p.failed, impl.Lost{Item: t.Item, Node: node, Value: t.Value, Why: impl.LostPoison})
	}
	p.ticks = append(p.ticks, p.tick)
	if len(p.faults()) == 6 {
		p.abort()
		p.ticks = nil
	}
}

func (p *modelPipe) abort() {
	p.closed = true
	for node := range p.g {
		for _, t := range p.at(node) {
			p.failed = append(p.failed, impl.Lost{Item: t.Item, Node: node, Value: t.Value, Why: impl.LostAborted})
		}
	}
	p.tokens = nil
}

func modelPlay(g []impl.Node, moves []impl.Move) (*modelPipe, []int, bool) {
	widest, good := modelWidestOf(g)
	if !good || widest > 400 || len(moves) > 300 {
		return nil, nil, false
	}
	p, codes := &modelPipe{g: g}, []int(nil)
	for _, m := range moves {
		code := p.code(m)
		if codes = append(codes, code); code == impl.PipeOk {
			p.change(m)
		}
	}
	return p, codes, true
}

func modelPlayPipe(g []impl.Node, moves []impl.Move) (impl.Pipe, []int, bool) {
	p, codes, ok := modelPlay(g, moves)
	if !ok {
		return impl.Pipe{}, nil, false
	}
	return p.pipe(), codes, true
}

func modelRunOut(g []impl.Node, moves []impl.Move) (impl.Pipe, int, bool) {
	p, _, ok := modelPlay(g, moves)
	if !ok {
		return impl.Pipe{}, 0, false
	}
	steps := p.runOut()
	return p.pipe(), steps, true
}

func (p *modelPipe) runOut() int {
	order, _ := modelOrderOf(p.g)
	slices.Reverse(order)
	p.closed = true
	steps := 0
	for ; len(p.tokens) > 0; steps++ {
		may := func(node int) bool { return p.code(impl.Move{Kind: impl.MoveStep, Node: node}) == impl.PipeOk }
		p.step(order[slices.IndexFunc(order, may)])
	}
	return steps
}

// modelOffered are those that count, in order: an item's number is its place there.
func modelOffered(g []impl.Node, moves []impl.Move) ([]impl.Move, bool) {
	_, codes, ok := modelPlay(g, moves)
	var offered []impl.Move
	for k, code := range codes {
		if moves[k].Kind == impl.MoveOffer && code == impl.PipeOk {
			offered = append(offered, moves[k])
		}
	}
	return offered, ok
}

// modelAccountOf takes the document at its word: an account is the meaning of what was offered, whatever became of it.
func modelAccountOf(g []impl.Node, moves []impl.Move, item int) ([]impl.Emit, bool) {
	offered, ok := modelOffered(g, moves)
	if !ok || !modelIsIn(0, item, len(offered)-1) {
		return nil, false
	}
	return modelMeaningOf(g, offered[item].Node, offered[item].Value)
}

func modelLiveAfter(g []impl.Node, moves []impl.Move) (int, bool) {
	p, _, ok := modelPlay(g, moves)
	if !ok {
		return 0, false
	}
	return len(p.tokens), true
}

func modelReport(p impl.Pipe) string {
	text := ""
	for _, part := range []struct {
		word string
		many int
	}{{"items", p.Items}, {"emitted", len(p.Emitted)}, {"failed", len(p.Failed)}, {"live", len(slices.Concat(p.Boxes...))}} {
		text += part.word + " " + strconv.Itoa(part.many) + " "
	}
	if p.Closed {
		return text + "closed"
	}
	return text[:len(text)-1]
}
