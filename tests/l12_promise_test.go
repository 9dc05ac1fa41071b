package tests

import (
	"reflect"
	"slices"
	"strconv"
	"testing"

	"loop.example/g00145/impl"
)

// anyPipeGraph is a good graph that is not too wide for a pipe; poison makes more of its stages fail.
func (r *turns) anyPipeGraph(poison bool) []impl.Node {
	for {
		g := r.anyGoodGraph()
		for k := range g {
			if a := 1 + r.next(4); poison && r.next(3) == 0 {
				g[k].Stage = poisonBy(a, r.next(a))
			}
		}
		if widest, _ := impl.WidestOf(g); widest <= 400 {
			return g
		}
	}
}

// anyMove is likely to be done; of a hundred so many are faults and ticks as told, and some five are of any numbers.
func (r *turns) anyMove(g []impl.Node, faults, ticks int) impl.Move {
	sources, _ := impl.SourcesOf(g)
	node := r.next(len(g))
	switch k := r.next(100); {
	case k < 5:
		return impl.Move{Kind: []int{-1, 0, 1, 2, 3, 4, 7, 8}[r.next(8)], Node: r.anyInt(), Value: r.anyInt()}
	case k < 5+faults:
		return impl.Move{Kind: impl.MoveFault, Node: node, Value: r.anyInt()}
	case k < 5+faults+ticks:
		return impl.Move{Kind: impl.MoveTick, Node: r.anyInt(), Value: []int{r.next(12), r.next(3), r.next(1003) - 1}[r.next(3)]}
	case k < 35+faults:
		return impl.Move{Kind: impl.MoveOffer, Node: sources[r.next(len(sources))], Value: []int{r.next(20) - 10, r.anyValue()}[r.next(2)]}
	case k == 98 && r.next(3) == 0:
		return impl.Move{Kind: impl.MoveDrain, Node: r.anyInt(), Value: r.anyInt()}
	case k == 99 && r.next(6) == 0:
		return impl.Move{Kind: impl.MoveAbort, Node: r.anyInt(), Value: r.anyInt()}
	}
	return impl.Move{Kind: impl.MoveStep, Node: node, Value: r.anyInt()}
}

func (r *turns) anyMoves(g []impl.Node, many int) []impl.Move {
	var list []impl.Move
	faults, ticks := []int{0, 3, 15, 30}[r.next(4)], []int{0, 5, 20}[r.next(3)]
	for range many {
		list = append(list, r.anyMove(g, faults, ticks))
	}
	return list
}

func mustMean(t *testing.T, g []impl.Node, node, v int) []impl.Emit {
	t.Helper()
	meaning, ok := impl.MeaningOf(g, node, v)
	if !ok {
		t.Fatalf("%+v: %d at %d means nothing", g, v, node)
	}
	return meaning
}

// accountsIn adds up, of each item, what was emitted, what lives and what failed.
func accountsIn(t *testing.T, g []impl.Node, p impl.Pipe, met map[string]int) [][]impl.Emit {
	t.Helper()
	accounts := make([][]impl.Emit, p.Items)
	add := func(item int, more ...impl.Emit) {
		if item < 0 || item >= p.Items {
			t.Fatalf("%s: there is no item %d", pipeText(p), item)
		}
		accounts[item] = append(accounts[item], more...)
	}
	for _, o := range p.Emitted {
		add(o.Item, impl.Emit{Node: o.Node, Value: o.Value})
		met["emitted"]++
	}
	for node, box := range p.Boxes {
		for _, token := range box {
			add(token.Item, mustMean(t, g, node, token.Value)...)
			met["live"]++
		}
	}
	for _, l := range p.Failed {
		add(l.Item, mustMean(t, g, l.Node, l.Value)...)
		met["failed "+strconv.Itoa(l.Why)]++
	}
	return accounts
}

// expectAccounts: all that is in the pipe is together what was offered, no more and no less.
func expectAccounts(t *testing.T, g []impl.Node, p impl.Pipe, offered []impl.Move, met map[string]int) {
	t.Helper()
	if p.Items != len(offered) {
		t.Fatalf("%s: %d were offered", pipeText(p), len(offered))
	}
	for item, account := range accountsIn(t, g, p, met) {
		want := mustMean(t, g, offered[item].Node, offered[item].Value)
		if got, ok := impl.SortEmits(account); !ok || !slices.Equal(got, want) {
			t.Fatalf("%+v: %s: item %d is %v, not %v", g, pipeText(p), item, got, want)
		}
		if len(want) == 0 {
			met["nothing"]++
		}
	}
}

// expectFits asks what holds of every pipe: no box has more than Cap, no token was tried too often, and Faults are few and near.
func expectFits(t *testing.T, g []impl.Node, p impl.Pipe) {
	t.Helper()
	fits := len(p.Boxes) == len(g) && len(p.Faults) <= 5 && slices.IsSorted(p.Faults)
	for node, box := range p.Boxes {
		fits = fits && len(box) <= g[node].Cap
		for _, token := range box {
			fits = fits && modelIsValue(token.Value) && modelIsIn(0, token.Tries, 3)
		}
	}
	for _, tick := range p.Faults {
		fits = fits && tick <= p.Tick && tick > p.Faults[len(p.Faults)-1]-10
	}
	for _, o := range p.Emitted {
		fits = fits && len(g[o.Node].Next) == 0
	}
	if !fits {
		t.Fatalf("%+v: %s", g, pipeText(p))
	}
}

// Promise 12: of each item what was emitted, what lives and what failed are what it means; run out nothing lives.
func TestPromise12(t *testing.T) {
	met := map[string]int{}
	for seed := range 1500 {
		r := turns(seed)
		g := r.anyPipeGraph(r.next(2) == 0)
		list := r.anyMoves(g, r.next(120))
		if r.next(10) == 0 {
			list = r.anyMoves(g, 300)
		}
		for _, many := range []int{r.next(len(list) + 1), len(list)} {
			part := list[:many]
			p, _, ok := impl.PlayPipe(g, part)
			offered, told := impl.OfferedIn(g, part)
			if !ok || !told {
				t.Fatalf("%+v: %+v: %v %v", g, part, ok, told)
			}
			expectFits(t, g, p)
			expectAccounts(t, g, p, offered, met)
			for item, m := range offered {
				if account, ok := impl.AccountOf(g, part, item); !ok || !slices.Equal(account, mustMean(t, g, m.Node, m.Value)) {
					t.Fatalf("%+v: %+v: item %d is %v, %v", g, part, item, account, ok)
				}
			}
			many, ok := impl.LiveAfter(g, part)
			if !ok || many != len(slices.Concat(p.Boxes...)) {
				t.Fatalf("%s: %d live, %v", pipeText(p), many, ok)
			}
			expectRunOut(t, g, part, p, offered, met)
		}
	}
	expectMetAll(t, met, 300, "emitted", "live", "failed 1", "failed 2", "nothing", "run out, all went", "run out, some failed")
}

func expectRunOut(t *testing.T, g []impl.Node, list []impl.Move, p impl.Pipe, offered []impl.Move, met map[string]int) {
	t.Helper()
	out, steps, ok := impl.RunOut(g, list)
	many := len(slices.Concat(p.Boxes...))
	if !ok || !out.Closed || len(slices.Concat(out.Boxes...)) > 0 || steps < 0 || (steps == 0) != (many == 0) {
		t.Fatalf("%+v: %+v: run out in %d steps, %v: %s", g, list, steps, ok, pipeText(out))
	}
	expectFits(t, g, out)
	expectAccounts(t, g, out, offered, met)
	// What was out and what had failed is still there, ahead of all else.
	if !slices.Equal(out.Emitted[:len(p.Emitted)], p.Emitted) || !slices.Equal(out.Failed[:len(p.Failed)], p.Failed) || out.Tick != p.Tick {
		t.Fatalf("%s, run out: %s", pipeText(p), pipeText(out))
	}
	switch {
	case many > 0 && len(out.Failed) == len(p.Failed):
		met["run out, all went"]++
	case many > 0:
		met["run out, some failed"]++
	}
}

// Where nothing fails all that was offered comes out, just as it is meant.
func TestAllComesOutWhereNothingFails(t *testing.T) {
	outs := 0
	for seed := range 400 {
		r := turns(seed)
		g := r.anyPipeGraph(false)
		for k := range g {
			if g[k].Stage.Kind == impl.StagePoison {
				g[k].Stage = mapBy(1, 1)
			}
		}
		list := slices.DeleteFunc(r.anyMoves(g, r.next(150)), func(m impl.Move) bool { return m.Kind == impl.MoveFault || m.Kind == impl.MoveAbort })
		offered, _ := impl.OfferedIn(g, list)
		out, _, ok := impl.RunOut(g, list)
		if !ok || len(out.Failed) > 0 || len(out.Faults) > 0 {
			t.Fatalf("%+v: %+v: %v %s", g, list, ok, pipeText(out))
		}
		of := make([][]impl.Emit, len(offered))
		for _, o := range out.Emitted {
			of[o.Item] = append(of[o.Item], impl.Emit{Node: o.Node, Value: o.Value})
		}
		for item, m := range offered {
			if got, _ := impl.SortEmits(of[item]); !slices.Equal(got, mustMean(t, g, m.Node, m.Value)) {
				t.Fatalf("%+v: %+v: item %d: %v", g, list, item, got)
			}
			outs += len(of[item])
		}
	}
	if outs < 5000 {
		t.Error("met too seldom:", outs)
	}
}

// A move with a code that is not 0 leaves the pipe as it was; all others, but for a tick of 0, do not. No code hangs on what follows.
func TestRefusedMovesChangeNothing(t *testing.T) {
	codes := map[int]int{}
	for seed := range 250 {
		r := turns(seed)
		g := r.anyPipeGraph(r.next(2) == 0)
		list := r.anyMoves(g, 20+r.next(60))
		_, all, _ := impl.PlayPipe(g, list)
		before, _, _ := impl.PlayPipe(g, nil)
		for k, m := range list {
			after, told, ok := impl.PlayPipe(g, list[:k+1])
			if !ok || !slices.Equal(told, all[:k+1]) {
				t.Fatalf("%+v: %+v: %v, %v behind %v", g, list[:k+1], ok, told, all)
			}
			same := sameValues([]any{before}, []any{after})
			if still := told[k] != impl.PipeOk || m.Kind == impl.MoveTick && m.Value == 0; still != same {
				t.Fatalf("%+v: %+v, code %d: %s, then %s", g, m, told[k], pipeText(before), pipeText(after))
			}
			codes[told[k]]++
			before = after
		}
	}
	expectMet(t, codes, 100, impl.PipeOk, impl.PipeBad, impl.PipeNone, impl.PipeClosed, impl.PipeFull, impl.PipeEmpty, impl.PipeBlocked)
}

// Without those that were refused the others come to the same.
func TestOnlyWhatWasDone(t *testing.T) {
	for seed := range 600 {
		r := turns(seed)
		g := r.anyPipeGraph(r.next(2) == 0)
		list := r.anyMoves(g, r.next(200))
		p, codes, _ := impl.PlayPipe(g, list)
		var done []impl.Move
		for k, m := range list {
			if codes[k] == impl.PipeOk {
				done = append(done, m)
			}
		}
		again, told, ok := impl.PlayPipe(g, done)
		if !ok || !sameValues([]any{p, make([]int, len(done))}, []any{again, told}) {
			t.Fatalf("%+v: %+v: %s, not %s", g, list, pipeText(again), pipeText(p))
		}
	}
}

// RunOut is a drain and steps: the same moves, played one by one, come to the same pipe.
func TestRunOutByMoves(t *testing.T) {
	played := 0
	for seed := range 300 {
		r := turns(seed)
		g := r.anyPipeGraph(r.next(2) == 0)
		list := r.anyMoves(g, r.next(60))
		want, steps, _ := impl.RunOut(g, list)
		if len(list)+1+steps > 300 {
			continue
		}
		order, _ := impl.OrderOf(g)
		slices.Reverse(order)
		list = append(list, impl.Move{Kind: impl.MoveDrain})
		p, _, _ := impl.PlayPipe(g, list)
		for range steps {
			for _, node := range order {
				longer := append(slices.Clone(list), impl.Move{Kind: impl.MoveStep, Node: node})
				next, codes, _ := impl.PlayPipe(g, longer)
				if codes[len(list)] == impl.PipeOk {
					list, p = longer, next
					break
				}
			}
		}
		if !sameValues([]any{p}, []any{want}) {
			t.Fatalf("%+v: %+v: run out in %d steps: %s, not %s", g, list, steps, pipeText(want), pipeText(p))
		}
		played += steps
	}
	if played < 2000 {
		t.Error("met too seldom:", played)
	}
}

// All rows of a few moves, without the guards, which would take long over so many.
func TestAllSmallPlays(t *testing.T) {
	g := capped(3, staged("1 -", expandBy(2, 1), poisonBy(5, 0)))
	words := moves("o0=4 s0 s1 f0 f1 t10 d a")
	many := 0
	for _, list := range listsOf(words, 5) {
		// The second beginning leads near to where a short row alone does not come.
		for _, begin := range []string{"", "o0=4*2 s0 s1 s1 f0*3"} {
			all := append(moves(begin), list...)
			p, codes, ok := impl.PlayPipe(g, all)
			want, wanted, _ := modelPlayPipe(g, all)
			if !ok || !reflect.DeepEqual(p, want) || !slices.Equal(codes, wanted) {
				t.Fatalf("%+v: %v %v, not %v\n%s, not\n%s", all, ok, codes, wanted, pipeText(p), pipeText(want))
			}
			out, steps, ok := impl.RunOut(g, all)
			wantOut, wantSteps, _ := modelRunOut(g, all)
			if !ok || !reflect.DeepEqual(out, wantOut) || steps != wantSteps {
				t.Fatalf("%+v: %v %d, not %d\n%s, not\n%s", all, ok, steps, wantSteps, pipeText(out), pipeText(wantOut))
			}
			many++
		}
	}
	if many < 1<<16 {
		t.Error("not all were met:", many)
	}
}

func TestManyPipes(t *testing.T) {
	r, codes := turns(12), map[int]int{}
	for range 250 {
		g := r.anyPipeGraph(r.next(2) == 0)
		list := r.anyMoves(g, []int{r.next(20), r.next(100), 290 + r.next(12)}[r.next(3)])
		p, told, _ := modelPlayPipe(g, list)
		for _, code := range told {
			codes[code]++
		}
		expectPipeModel(t, g, list, -1, 0, p.Items/2, p.Items-1, p.Items)
	}
	expectMet(t, codes, 50, impl.PipeOk, impl.PipeBad, impl.PipeNone, impl.PipeClosed, impl.PipeFull, impl.PipeEmpty, impl.PipeBlocked)
}

// Promise 14: graphs, moves and pipes of any numbers and texts.
func TestAnyPipeIsAnswered(t *testing.T) {
	r, met := turns(1214), map[string]int{}
	for range 600 {
		g := r.anyPipeGraph(false)
		for range r.next(3) {
			n := &g[r.next(len(g))]
			switch r.next(5) {
			case 0:
				n.Name = []string{"", "a1", g[r.next(len(g))].Name}[r.next(3)]
			case 1:
				n.Stage = impl.Stage{Kind: r.anyInt(), A: r.anyInt(), B: r.wideInt()}
			case 2:
				n.Cap = r.anyInt()
			case 3:
				n.Next = append(n.Next, r.anyInt())
			case 4:
				g = append(g, impl.Node{Name: "behind", Stage: same, Cap: 3, Next: []int{r.anyInt()}})
			}
		}
		var list []impl.Move
		for range []int{r.next(5), r.next(40), 299 + r.next(3)}[r.next(3)] {
			list = append(list, impl.Move{Kind: []int{r.anyInt(), r.wideInt(), r.next(8)}[r.next(3)], Node: r.anyInt(), Value: []int{r.anyInt(), r.wideInt()}[r.next(2)]})
		}
		_, _, ok := modelPlayPipe(g, list)
		met[strconv.FormatBool(ok)]++
		expectPipeModel(t, g, list, r.anyInt(), r.wideInt())
	}
	expectMetAll(t, met, 100, "true", "false")
	for range 500 {
		p := impl.Pipe{Tick: r.wideInt(), Items: r.wideInt(), Closed: r.next(2) == 0}
		for range r.next(15) {
			p.Boxes = append(p.Boxes, make([]impl.Token, r.next(12)*r.next(3)))
			p.Emitted = append(p.Emitted, impl.Out{Item: r.anyInt(), Node: r.wideInt(), Value: r.wideInt()})
			p.Faults = append(p.Faults, r.wideInt())
		}
		p.Failed = make([]impl.Lost, r.next(3)*r.next(200))
		expectCall(t, impl.ReportText, in(p), modelReport(p))
	}
}

// What nothing is told of is the nil list, whichever came in.
func TestPipeEmptyLists(t *testing.T) {
	g := shape("1 -")
	for _, list := range [][]impl.Move{nil, {}, make([]impl.Move, 0, 5)} {
		p, codes, _ := impl.PlayPipe(g, list)
		offered, _ := impl.OfferedIn(g, list)
		account, _ := impl.AccountOf(g, list, 0)
		if codes != nil || offered != nil || account != nil || p.Boxes[0] != nil || p.Boxes[1] != nil || p.Emitted != nil || p.Failed != nil || p.Faults != nil {
			t.Error(codes, offered, account, p)
		}
	}
	p, _, _ := impl.PlayPipe(g, moves("o0=4*2 f0*6"))
	if p.Boxes[0] != nil || p.Boxes[1] != nil || p.Emitted != nil || p.Faults != nil {
		t.Error(p)
	}
	for _, bad := range [][]impl.Node{nil, {}, shape("0")} {
		p, codes, _ := impl.PlayPipe(bad, moves("o0=4"))
		if p.Boxes != nil || codes != nil {
			t.Error(p, codes)
		}
	}
}

// Nodes whose Next is one list handed in several times, and lists with much behind their lengths.
func TestPipesOfOneMemory(t *testing.T) {
	next := []int{3, 4, 5, 0, 1, 2}
	row := moves("o0=1 o1=2 o2=3 s0 s1 s2 s3 f4 f4 t3 f5 d a o0=1")
	g := graph(leading(same, next[:1]...), leading(same, next[:2]...), leading(same, next[:3]...), leading(same, next[1:1]...), leading(same), leading(same, next[6:]...))
	before := plainValues([]any{g, next, row})
	want, wanted, _ := modelPlayPipe(g, row[:12])
	for range 3 {
		p, codes, ok := impl.PlayPipe(g, row[:12])
		out, _, _ := impl.RunOut(g, row[:12])
		offered, _ := impl.OfferedIn(g, row[:12])
		account, _ := impl.AccountOf(g, row[:12], 2)
		if !ok || !sameValues([]any{p, codes}, []any{want, wanted}) || len(offered) != 3 || len(account) != 3 {
			t.Fatal(pipeText(p), codes, ok, offered, account)
		}
		for _, told := range []impl.Pipe{p, out} {
			scribblePipe(told)
		}
		for k := range offered {
			offered[k], codes[k], account[k] = impl.Move{Kind: -99, Node: -99, Value: -99}, -99, impl.Emit{Node: -99, Value: -99}
		}
		if !sameValues(before, []any{g, next, row}) {
			t.Fatalf("written into: %+v %+v", g, row)
		}
	}
}

// scribblePipe writes over all memory that a pipe hands out, also behind its lengths.
func scribblePipe(p impl.Pipe) {
	for k, box := range p.Boxes {
		box = box[:cap(box)]
		for at := range box {
			box[at] = impl.Token{Item: -99, Value: -99, Tries: -99}
		}
		p.Boxes[k] = nil
	}
	for k := range p.Emitted[:cap(p.Emitted)] {
		p.Emitted[:cap(p.Emitted)][k] = impl.Out{Item: -99, Node: -99, Value: -99}
	}
	for k := range p.Failed[:cap(p.Failed)] {
		p.Failed[:cap(p.Failed)][k] = impl.Lost{Item: -99, Node: -99, Value: -99, Why: -99}
	}
	for k := range p.Faults[:cap(p.Faults)] {
		p.Faults[:cap(p.Faults)][k] = -99
	}
}

// What is answered must not hang on who else asks at the same time.
func TestPipesAtOnce(t *testing.T) {
	g := exactly400()
	list := moves("o5=3 o5=4 s5 s0*2 s1*2 s4 s3 f3")
	want, steps, _ := modelRunOut(g, list)
	left, _ := modelLiveAfter(g, list)
	answers := make(chan []any, 60)
	for range cap(answers) {
		go func() {
			p, many, ok := impl.RunOut(g, list)
			live, _ := impl.LiveAfter(g, list)
			answers <- []any{p, many, ok, live}
		}()
	}
	for range cap(answers) {
		if got := <-answers; !sameValues(got, []any{want, steps, true, left}) {
			t.Fatalf("%+v", got)
		}
	}
}

// As much as MaxMoves moves put into graphs that are as wide, as long or as full as may be.
func TestGreatestPipes(t *testing.T) {
	for _, g := range [][]impl.Node{capped(8, exactly400()), capped(8, widening("2222222211", 1, tenInARow)), capped(8, shape("123456789 - - - - - - - - -"))} {
		r := turns(5)
		var list []impl.Move
		order, _ := impl.OrderOf(g)
		sources, _ := impl.SourcesOf(g)
		for len(list) < 300 {
			list = append(list, impl.Move{Kind: impl.MoveOffer, Node: sources[0], Value: r.anyValue()})
			for _, node := range order {
				list = append(list, impl.Move{Kind: impl.MoveStep, Node: node})
			}
		}
		expectPipeModel(t, g, list[:300], 0, 1)
		out, _, ok := impl.RunOut(g, list[:300])
		offered, _ := impl.OfferedIn(g, list[:300])
		if !ok {
			t.Fatal(g)
		}
		expectAccounts(t, g, out, offered, map[string]int{})
	}
}
