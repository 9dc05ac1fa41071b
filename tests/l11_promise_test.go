package tests

import (
	"slices"
	"strconv"
	"strings"
	"testing"

	"loop.example/g00145/impl"
)

// anyTameStage lets much by, so that values come to the ends.
func (r *turns) anyTameStage(mostFactor int) impl.Stage {
	switch r.next(8) {
	case 0:
		return mapBy(r.next(7)-3, r.next(2001)-1000)
	case 1:
		a := 2 + r.next(2)
		return filterBy(a, r.next(a))
	case 2:
		a := 1 + r.next(3)
		return poisonBy(a, r.next(a))
	case 3:
		return r.anyGoodStage()
	}
	return expandBy(1+r.next(mostFactor), r.next(2001)-1000)
}

// anyShape has edges only from those that stand ahead in some order of the nodes, so that none leads round.
func (r *turns) anyShape(many, dense int) []impl.Node {
	ranks := countUp(0, many)
	for k := range ranks {
		other := k + r.next(many-k)
		ranks[k], ranks[other] = ranks[other], ranks[k]
	}
	nodes := make([]impl.Node, many)
	for k, from := range ranks {
		for _, to := range ranks[k+1:] {
			if r.next(10) < dense {
				nodes[from].Next = append(nodes[from].Next, to)
			}
		}
	}
	return nodes
}

// anyGoodGraph is so wide in some that nothing in it is told.
func (r *turns) anyGoodGraph() []impl.Node {
	many, dense, mostFactor := []int{1, 2, 1 + r.next(10), 1 + r.next(10), 10}[r.next(5)], r.next(11), 1+r.next(3)
	widens := r.next(8) == 0
	if widens {
		many, dense = 10, 7+r.next(4)
	}
	g := r.anyShape(many, dense)
	for k := range g {
		g[k].Name = strings.Repeat(string(rune("aAzZmM"[r.next(6)])), 1+r.next(6)) + string(rune('a'+k))
		g[k].Stage, g[k].Cap = r.anyTameStage(mostFactor), 3+r.next(6)
		if widens && r.next(8) > 0 {
			g[k].Stage = expandBy(3, r.next(9))
		}
	}
	return g
}

// expectOrder: every node once, behind all that lead to it, and none that stands later could have been the lesser next.
func expectOrder(t *testing.T, g []impl.Node) {
	t.Helper()
	order, ok := impl.OrderOf(g)
	if !ok || !slices.Equal(sorted(order), countUp(0, len(g))) {
		t.Fatalf("%+v: %v, %v", g, order, ok)
	}
	mayStand := func(node int, ahead []int) bool {
		for from, n := range g {
			if slices.Contains(n.Next, node) && !slices.Contains(ahead, from) {
				return false
			}
		}
		return true
	}
	for place, node := range order {
		if !mayStand(node, order[:place]) {
			t.Fatalf("%+v: %v: %d stands ahead of one that leads to it", g, order, node)
		}
		for _, later := range order[place+1:] {
			if later < node && mayStand(later, order[:place]) {
				t.Fatalf("%+v: %v: %d could stand where %d does", g, order, later, node)
			}
		}
	}
	var sources []int
	for node := range g {
		if mayStand(node, nil) {
			sources = append(sources, node)
		}
	}
	if got, ok := impl.SourcesOf(g); !ok || !slices.Equal(got, sources) {
		t.Fatalf("%+v: sources %v, not %v", g, got, sources)
	}
}

// drip lets values through the graph one by one, each time any that is under way, till all are out; many is where it stops.
func drip(r *turns, g []impl.Node, node, v, many int) []impl.Emit {
	under, out := emits(node, v), []impl.Emit(nil)
	for len(under) > 0 && len(out) <= many {
		k := r.next(len(under))
		at := under[k]
		under[k] = under[len(under)-1]
		under = under[:len(under)-1]
		values, fails, _ := impl.ApplyStage(g[at.Node].Stage, at.Value)
		if fails {
			values = []int{at.Value}
		}
		for _, value := range values {
			if len(g[at.Node].Next) == 0 {
				out = append(out, impl.Emit{Node: at.Node, Value: value})
			}
			for _, next := range g[at.Node].Next {
				under = append(under, impl.Emit{Node: next, Value: value})
			}
		}
	}
	return out
}

// Promise 11: an order leads each node behind those that lead to it; no value means more than the widest.
func TestPromise11(t *testing.T) {
	met, widths := map[string]int{}, 0
	for seed := range 1500 {
		r := turns(seed)
		g := r.anyGoodGraph()
		if code := impl.CheckGraph(g); code != impl.GraphOk {
			t.Fatalf("%+v: %d", g, code)
		}
		expectOrder(t, g)
		widest, ok := impl.WidestOf(g)
		if !ok || widest < 1 {
			t.Fatalf("%+v: widest %d, %v", g, widest, ok)
		}
		for node := range g {
			v := r.anyValue()
			meaning, told := impl.MeaningOf(g, node, v)
			if widest > 100000 {
				met["too wide"]++
				if told || meaning != nil {
					t.Fatalf("%+v: widest %d, but %v", g, widest, meaning)
				}
				continue
			}
			came := drip(&r, g, node, v, 400)
			if len(came) > widest {
				t.Fatalf("%+v: %d came of %d at %d, more than the widest %d", g, len(came), v, node, widest)
			}
			if told != (len(came) <= 400) {
				t.Fatalf("%+v: %d came of %d at %d, but %v", g, len(came), v, node, told)
			}
			if !told {
				met["too many"]++
				continue
			}
			if want, _ := modelSortEmits(came); !slices.Equal(meaning, want) {
				t.Fatalf("%+v: %d at %d means %v, not %v", g, v, node, meaning, want)
			}
			if len(came) == widest {
				widths++
			}
			met["some"]++
			if len(came) == 0 {
				met["nothing"]++
			}
		}
	}
	expectMetAll(t, met, 50, "some", "nothing", "too wide", "too many")
	if widths < 300 {
		t.Error("the widest was met too seldom:", widths)
	}
}

// Promise 11: where no stage loses a value the widest is not only never passed, but met.
func TestWidestIsMet(t *testing.T) {
	met := 0
	for seed := range 1500 {
		r := turns(seed)
		g := r.anyShape(1+r.next(10), r.next(6))
		for k := range g {
			g[k] = leading([]impl.Stage{mapBy(r.next(5), 1), poisonBy(1, 0), expandBy(1+r.next(3), r.next(9))}[r.next(3)], g[k].Next...)
		}
		g = graph(g...)
		widest, ok := impl.WidestOf(g)
		if !ok || widest > 400 {
			continue
		}
		most := 0
		for node := range g {
			meaning, ok := impl.MeaningOf(g, node, r.anyValue())
			if !ok || len(meaning) > widest {
				t.Fatalf("%+v: widest %d, but %d at %d, %v", g, widest, len(meaning), node, ok)
			}
			most = max(most, len(meaning))
		}
		if most != widest {
			t.Fatalf("%+v: widest %d, but %d at most", g, widest, most)
		}
		met++
	}
	if met < 1000 {
		t.Error("met too seldom:", met)
	}
}

// Promise 11: what a node means is what those behind it mean of what its stage makes, and all of it comes out at ends.
func TestMeaningIsThatOfItsParts(t *testing.T) {
	parts := 0
	for seed := range 2000 {
		r := turns(seed)
		g := r.anyGoodGraph()
		node, v := r.next(len(g)), r.anyValue()
		whole, ok := impl.MeaningOf(g, node, v)
		for _, e := range whole {
			if len(g[e.Node].Next) > 0 || !modelIsValue(e.Value) {
				t.Fatalf("%+v: %+v is not emitted at an end", g, e)
			}
		}
		if !ok || len(g[node].Next) == 0 {
			continue
		}
		values, fails, _ := impl.ApplyStage(g[node].Stage, v)
		if fails {
			values = []int{v}
		}
		var all []impl.Emit
		for _, value := range values {
			for _, next := range g[node].Next {
				part, ok := impl.MeaningOf(g, next, value)
				if !ok {
					t.Fatalf("%+v: %d at %d means nothing", g, value, next)
				}
				all = append(all, part...)
				parts++
			}
		}
		if together, ok := impl.SortEmits(all); !ok || !slices.Equal(together, whole) {
			t.Fatalf("%+v: %d at %d means %v, its parts %v", g, v, node, whole, together)
		}
	}
	if parts < 1000 {
		t.Error("met too seldom:", parts)
	}
}

// Promise 11: an edge more never takes a node from behind those that led to it, or it makes a round.
func TestOneEdgeMore(t *testing.T) {
	rounds, more := 0, 0
	for seed := range 1500 {
		r := turns(seed)
		g := r.anyGoodGraph()
		from, to := r.next(len(g)), r.next(len(g))
		if slices.Contains(g[from].Next, to) {
			continue
		}
		order, _ := impl.OrderOf(g)
		leads := from == to || modelReached(g)[to][from]
		longer := changedNode(g, from, func(n *impl.Node) { n.Next = append(n.Next, to) })
		code := impl.CheckGraph(longer)
		if leads != (code == impl.GraphCycle) || !leads && code != impl.GraphOk {
			t.Fatalf("%+v, and from %d to %d: %d", g, from, to, code)
		}
		if leads {
			rounds++
			continue
		}
		expectOrder(t, longer)
		again, _ := impl.OrderOf(longer)
		if slices.Index(order, from) < slices.Index(order, to) && !slices.Equal(order, again) {
			t.Fatalf("%+v: %v, and from %d to %d, which it keeps to: %v", g, order, from, to, again)
		}
		more++
	}
	if rounds < 200 || more < 200 {
		t.Error("met too seldom:", rounds, more)
	}
}

// SortEmits changes the order alone, whatever it was.
func TestSortedEmits(t *testing.T) {
	r := turns(1100)
	for range 600 {
		var l []impl.Emit
		for range []int{r.next(5), r.next(60), 390 + r.next(15)}[r.next(3)] {
			l = append(l, impl.Emit{Node: r.anyInt(), Value: []int{r.anyInt(), r.wideInt()}[r.next(2)]})
		}
		want, ok := modelSortEmits(l)
		expectCall(t, impl.SortEmits, in(l), want, ok)
		if again, ok := impl.SortEmits(want); !slices.Equal(again, want) || !ok {
			t.Fatalf("sorted again: %v, not %v", again, want)
		}
	}
}

func TestManyGoodGraphs(t *testing.T) {
	r, met := turns(11), map[string]int{}
	for range 500 {
		g := r.anyGoodGraph()
		expectGraphModel(t, g, []int{r.next(len(g)), r.next(len(g))}, []int{r.anyValue()}, met)
	}
	expectMetAll(t, met, 30, "code 0", "refused", "nothing", "one", "many")
}

// Good graphs in which one thing is another are held against the model: many of them are not good any more.
func TestGraphsThatAreNearlyGood(t *testing.T) {
	r, codes := turns(1111), map[int]int{}
	for range 12000 {
		g := r.anyGoodGraph()
		for range 1 + r.next(2) {
			n := &g[r.next(len(g))]
			switch r.next(7) {
			case 0:
				n.Name = []string{"", "a1", strings.Repeat("b", 11+r.next(4)), g[r.next(len(g))].Name}[r.next(4)]
			case 1:
				n.Name = g[r.next(len(g))].Name
			case 2:
				n.Stage.Kind, n.Stage.A = r.anyInt(), []int{r.anyInt(), n.Stage.A}[r.next(2)]
			case 3:
				n.Cap = []int{r.anyInt(), 2 + r.next(8)}[r.next(2)]
			case 4:
				n.Next = append(n.Next, []int{r.anyInt(), len(g), -1}[r.next(3)])
			default:
				n.Next = append(n.Next, r.next(len(g)))
			}
		}
		if r.next(30) == 0 {
			g = append(g, g...)
		}
		code := modelCheckGraph(g)
		codes[code]++
		if got := impl.CheckGraph(g); got != code {
			t.Fatalf("CheckGraph of %+v: %d, not %d", g, got, code)
		}
		if _, ok := impl.OrderOf(g); ok != (code == impl.GraphOk) {
			t.Fatalf("OrderOf of %+v: %v", g, ok)
		}
	}
	expectMet(t, codes, 100, impl.GraphOk, impl.GraphMany, impl.GraphName, impl.GraphTwice, impl.GraphStage, impl.GraphCap, impl.GraphEdge, impl.GraphCycle)
}

// Promise 14: graphs of any numbers and texts.
func TestAnyGraphIsAnswered(t *testing.T) {
	r, met := turns(1114), map[string]int{}
	for range 500 {
		var g []impl.Node
		for k := range []int{r.next(4) * r.next(5), r.next(3)}[r.next(2)] {
			n := impl.Node{Name: strconv.Itoa(r.anyInt()), Stage: impl.Stage{Kind: r.anyInt(), A: r.anyInt(), B: r.anyInt()}, Cap: r.anyInt()}
			for range r.next(4) {
				n.Next = append(n.Next, r.anyInt())
			}
			if r.next(6) > 0 {
				n.Name = string(rune('a' + (k+r.next(2))%5))
			}
			if r.next(6) > 0 {
				n.Stage = expandBy(2, 1)
			}
			if r.next(6) > 0 {
				n.Cap = 3
			}
			if r.next(2) > 0 {
				n.Next = nil
			}
			g = append(g, n)
		}
		expectGraphModel(t, g, []int{0, r.anyInt(), r.wideInt()}, []int{r.anyInt(), r.wideInt()}, met)
	}
	expectMetAll(t, met, 15, "code 0", "code 1", "code 2", "code 3", "code 4", "code 5", "code 6", "refused", "many")
}

// What is answered must not hang on who else asks at the same time.
func TestGraphsAtOnce(t *testing.T) {
	g := exactly400()
	want, _ := modelMeaningOf(g, 5, 3)
	bad := changedNode(g, 0, func(n *impl.Node) { n.Next = []int{5} })
	answers := make(chan []any, 100)
	for range cap(answers) {
		go func() {
			meaning, ok := impl.MeaningOf(g, 5, 3)
			order, _ := impl.OrderOf(g)
			answers <- []any{meaning, ok, order, impl.CheckGraph(bad)}
		}()
	}
	for range cap(answers) {
		if got := <-answers; !sameValues(got, []any{want, true, []int{5, 4, 3, 2, 1, 0}, impl.GraphCycle}) {
			t.Fatalf("%+v", got)
		}
	}
}
