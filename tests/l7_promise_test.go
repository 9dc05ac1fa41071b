package tests

import (
	"slices"
	"testing"

	"loop.example/g00145/impl"
)

// inPieces goes through the first many stages, then with each value that comes out through the others.
func inPieces(t *testing.T, l []impl.Stage, v int, many int) ([]int, bool) {
	t.Helper()
	made, fails, ok := impl.ApplyChain(l[:many], v)
	if !ok || fails && len(made) > 0 {
		t.Fatalf("%+v of %d: %v, %v, %v", l[:many], v, made, fails, ok)
	}
	var out []int
	for _, one := range made {
		more, failed, ok := impl.ApplyChain(l[many:], one)
		if !ok || failed && len(more) > 0 {
			t.Fatalf("%+v of %d: %v, %v, %v", l[many:], one, more, failed, ok)
		}
		out, fails = append(out, more...), fails || failed
	}
	if fails {
		return nil, true
	}
	return out, false
}

func expectPieces(t *testing.T, l []impl.Stage, v int, met map[string]int) {
	t.Helper()
	whole, fails, ok := impl.ApplyChain(l, v)
	if !ok || fails && len(whole) > 0 {
		t.Fatalf("%+v of %d: %v, %v, %v", l, v, whole, fails, ok)
	}
	for many := range len(l) + 1 {
		out, failed := inPieces(t, l, v, many)
		if failed != fails || !slices.Equal(out, whole) {
			t.Fatalf("%+v of %d: cut behind %d: %v, %v, not %v, %v", l, v, many, out, failed, whole, fails)
		}
	}
	switch {
	case fails:
		met["fails"]++
	case len(whole) == 0:
		met["nothing"]++
	default:
		met["something"]++
	}
}

// Promise 7: a chain in two pieces is the chain, wherever it is cut.
func TestPromise7OfChains(t *testing.T) {
	r, met := turns(7), map[string]int{}
	for range 4000 {
		expectPieces(t, r.anyGoodChain([]int{r.next(9), 8}[r.next(2)]), r.anyValue(), met)
	}
	expectPieces(t, manyOf(expandBy(3, 1), 8), 5, met)
	expectPieces(t, append(manyOf(expandBy(3, 1), 7), poisonBy(20, 19)), 5, met)
	expectPieces(t, append(manyOf(expandBy(3, 1), 7), filterBy(20, 19)), 5, met)
	expectMetAll(t, met, 100, "fails", "nothing", "something")
}

func TestPromise7OfAllSmallChains(t *testing.T) {
	kinds := chain(mapBy(3, -1), filterBy(2, 1), filterBy(1, 0), expandBy(2, 3), expandBy(3, -1), poisonBy(5, 4), poisonBy(2, 0))
	met := map[string]int{}
	for _, l := range listsOf(kinds, 4) {
		for _, v := range []int{-4, -1, 0, 3} {
			expectPieces(t, l, v, met)
		}
	}
	expectMetAll(t, met, 500, "fails", "nothing", "something")
}

// Promise 7: a stage alone is the chain of it, and as many come out of a chain as its factors allow at most.
func TestChainOfOne(t *testing.T) {
	r := turns(71)
	for range 3000 {
		s, v := r.anyGoodStage(), r.anyValue()
		out, fails, ok := impl.ApplyStage(s, v)
		chained, failed, good := impl.ApplyChain(chain(s), v)
		if !slices.Equal(out, chained) || fails != failed || ok != good || len(out) > impl.FactorOf(s) {
			t.Fatalf("%+v of %d: %v %v %v, as a chain %v %v %v", s, v, out, fails, ok, chained, failed, good)
		}
		l, most := r.anyGoodChain(r.next(9)), 1
		for _, s := range l {
			most *= impl.FactorOf(s)
		}
		out, _, _ = impl.ApplyChain(l, v)
		if len(out) > most {
			t.Fatalf("%+v of %d: %d came out, not %d at most", l, v, len(out), most)
		}
		for _, one := range out {
			if !modelIsValue(one) {
				t.Fatalf("%+v of %d: %d is no value", l, v, one)
			}
		}
	}
}

// drawsOfTurn are the draws with which the hands give up their numbers in the order in which they were dealt.
func drawsOfTurn(hands [][]int, turn int) []int {
	left, all := slices.Clone(hands), len(slices.Concat(hands...))
	var draws []int
	for range all {
		place := 0
		for _, hand := range left[:turn] {
			if len(hand) > 0 {
				place++
			}
		}
		draws = append(draws, place)
		left[turn] = left[turn][1:]
		turn = (turn + 1) % len(left)
	}
	return draws
}

func expectDealt(t *testing.T, v []int, many, turn int) [][]int {
	t.Helper()
	hands, next, ok := impl.SplitTurn(v, many, turn)
	if !ok || len(hands) != many || next != (turn+len(v))%many {
		t.Fatalf("%v to %d from %d: %v, %d, %v", v, many, turn, hands, next, ok)
	}
	for _, hand := range hands {
		if len(hand) < len(v)/many || len(hand) > (len(v)+many-1)/many {
			t.Fatalf("%v to %d from %d: %v", v, many, turn, hands)
		}
	}
	return hands
}

func sorted(list []int) []int {
	list = slices.Clone(list)
	slices.Sort(list)
	return list
}

// Promise 7: what is dealt and merged is the same numbers, whatever the draws; with the draws of the turn it is the same list.
func TestPromise7OfDeals(t *testing.T) {
	r := turns(72)
	for length := range 101 {
		for many := 1; many <= 10; many++ {
			v, turn := r.anyValues(length), r.next(many)
			if length%3 == 0 {
				v = countUp(-5, length)
			}
			hands := expectDealt(t, v, many, turn)
			merged, ok := impl.MergeFair(hands, r.anyDraws(r.next(length+10)))
			if !ok || !slices.Equal(sorted(merged), sorted(v)) {
				t.Fatalf("%v to %d from %d: merged %v, %v", v, many, turn, merged, ok)
			}
			again, ok := impl.MergeFair(hands, drawsOfTurn(hands, turn))
			if !ok || !slices.Equal(again, v) {
				t.Fatalf("%v to %d from %d: merged in turn %v, %v", v, many, turn, again, ok)
			}
		}
	}
}

// Promise 7: each list's numbers come out in their order, and the numbers of all lists are all that comes out.
func TestMergedInOrder(t *testing.T) {
	r := turns(73)
	for range 2000 {
		hands := r.anyHands()
		for k, hand := range hands {
			for place := range hand {
				hand[place] = 1000*k + place
			}
		}
		merged, ok := impl.MergeFair(hands, r.anyDraws(r.next(110)))
		if !ok || len(merged) != len(slices.Concat(hands...)) {
			t.Fatalf("%v: %v, %v", hands, merged, ok)
		}
		came := make([][]int, len(hands))
		for _, number := range merged {
			came[number/1000] = append(came[number/1000], number)
		}
		if !sameValues([]any{came}, []any{hands}) {
			t.Fatalf("%v: %v", hands, merged)
		}
	}
}

// Promise 7: dealt in two pieces, the second from the turn that the first one tells, is dealt at once.
func TestDealtInPieces(t *testing.T) {
	r := turns(74)
	for range 500 {
		v, many := r.anyValues(r.next(101)), 1+r.next(10)
		turn := r.next(many)
		whole, end, _ := impl.SplitTurn(v, many, turn)
		for cut := range len(v) + 1 {
			first, between, _ := impl.SplitTurn(v[:cut], many, turn)
			second, last, ok := impl.SplitTurn(v[cut:], many, between)
			if !ok || last != end || len(first) != many || len(second) != many {
				t.Fatalf("%v cut behind %d: %v, %d, then %v, %d, %v", v, cut, first, between, second, last, ok)
			}
			for k := range whole {
				if !slices.Equal(slices.Concat(first[k], second[k]), whole[k]) {
					t.Fatalf("%v cut behind %d: %v and %v, not %v", v, cut, first, second, whole)
				}
			}
		}
	}
}

// Promise 14: an answer that is written over, also behind its length, changes no other answer and no argument.
func TestStageAnswersAreNew(t *testing.T) {
	l, v := chain(expandBy(3, 1), mapBy(2, 0)), []int{1, 2, 3, 4, 5}
	hands := lists([]int{1, 2}, []int{3})
	scribbleOver := func(list []int) {
		for k := range list[:cap(list)] {
			list[:cap(list)][k] = -99
		}
	}
	for range 3 {
		none, _, _ := impl.ApplyChain(nil, 7)
		one, _, _ := impl.ApplyStage(expandBy(3, 1), 7)
		many, _, _ := impl.ApplyChain(l, 7)
		dealt, _, _ := impl.SplitTurn(v, 2, 0)
		merged, _ := impl.MergeFair(hands, []int{1})
		got := lists(none, one, many, merged, dealt[0], dealt[1])
		want := lists([]int{7}, []int{7, 8, 9}, []int{14, 16, 18}, []int{3, 1, 2}, []int{1, 3, 5}, []int{2, 4})
		if !sameValues([]any{got}, []any{want}) {
			t.Fatalf("%v, not %v", got, want)
		}
		for k, list := range got {
			scribbleOver(list)
			if !sameValues([]any{got[k+1:]}, []any{want[k+1:]}) {
				t.Fatalf("answer %d shares memory with another: %v, not %v", k, got[k+1:], want[k+1:])
			}
		}
	}
	if !slices.Equal(v, countUp(1, 5)) || !slices.Equal(l, chain(expandBy(3, 1), mapBy(2, 0))) || !sameValues([]any{hands}, []any{lists([]int{1, 2}, []int{3})}) {
		t.Error("written into:", v, l, hands)
	}
}
