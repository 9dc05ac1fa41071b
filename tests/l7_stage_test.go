package tests

import (
	"fmt"
	"math"
	"slices"
	"testing"

	"loop.example/g00145/impl"
)

// mapBy, filterBy, expandBy and poisonBy make stages short enough to be read in a row.
func mapBy(a, b int) impl.Stage    { return impl.Stage{Kind: impl.StageMap, A: a, B: b} }
func filterBy(a, b int) impl.Stage { return impl.Stage{Kind: impl.StageFilter, A: a, B: b} }
func expandBy(a, b int) impl.Stage { return impl.Stage{Kind: impl.StageExpand, A: a, B: b} }
func poisonBy(a, b int) impl.Stage { return impl.Stage{Kind: impl.StagePoison, A: a, B: b} }

// edgesOf are the ends of a span, what is next to them on both sides, and the ends of int.
func edgesOf(least, greatest int) []int {
	return []int{math.MinInt, least - 1, least, least + 1, greatest - 1, greatest, greatest + 1, math.MaxInt}
}

func TestStageConstants(t *testing.T) {
	got := []int{impl.MaxValue, impl.MaxExpand, impl.StageMap, impl.StageFilter, impl.StageExpand, impl.StagePoison}
	if want := []int{1000000, 3, 1, 2, 3, 4}; !slices.Equal(got, want) {
		t.Error(got, want)
	}
}

func goodStages() []impl.Stage {
	list := []impl.Stage{
		mapBy(-100, 0), mapBy(100, 0), mapBy(0, -1000000), mapBy(0, 1000000), mapBy(0, 0), mapBy(1, 0),
		mapBy(-100, -1000000), mapBy(-100, 1000000), mapBy(100, -1000000), mapBy(100, 1000000),
		expandBy(1, 0), expandBy(2, 0), expandBy(3, 0), expandBy(1, -1000), expandBy(1, 1000),
		expandBy(3, -1000), expandBy(3, 1000), expandBy(2, -1), expandBy(2, 1),
	}
	for _, kind := range []int{impl.StageFilter, impl.StagePoison} {
		for _, a := range []int{1, 2, 3, 999, 1000} {
			for _, b := range []int{0, a / 2, a - 1} {
				list = append(list, impl.Stage{Kind: kind, A: a, B: b})
			}
		}
	}
	return list
}

func badStages() []impl.Stage {
	list := []impl.Stage{
		{},
		mapBy(-101, 0), mapBy(101, 0), mapBy(math.MinInt, 0), mapBy(math.MaxInt, 0),
		mapBy(1, -1000001), mapBy(1, 1000001), mapBy(1, math.MinInt), mapBy(1, math.MaxInt),
		mapBy(-101, -1000001), mapBy(math.MaxInt, math.MinInt),
		expandBy(0, 0), expandBy(-1, 0), expandBy(4, 0), expandBy(math.MinInt, 0), expandBy(math.MaxInt, 0),
		expandBy(2, -1001), expandBy(2, 1001), expandBy(2, math.MinInt), expandBy(2, math.MaxInt),
		expandBy(0, 1001), expandBy(4, -1001),
	}
	for _, kind := range []int{math.MinInt, -1, 0, 5, 6, math.MaxInt} {
		list = append(list, impl.Stage{Kind: kind, A: 1}, impl.Stage{Kind: kind, A: 3, B: 2}, impl.Stage{Kind: kind, A: 1000, B: 999})
	}
	for _, kind := range []int{impl.StageFilter, impl.StagePoison} {
		for _, a := range []int{math.MinInt, math.MinInt + 1, -1000, -1, 0, 1001, math.MaxInt} {
			for _, b := range []int{math.MinInt, -1, 0, 1, math.MaxInt} {
				list = append(list, impl.Stage{Kind: kind, A: a, B: b})
			}
		}
		for _, a := range []int{1, 2, 999, 1000} {
			for _, b := range []int{math.MinInt, -a, -1, a, a + 1, math.MaxInt} {
				list = append(list, impl.Stage{Kind: kind, A: a, B: b})
			}
		}
	}
	return list
}

func TestGoodStage(t *testing.T) {
	for _, s := range goodStages() {
		expectCall(t, impl.GoodStage, in(s), true)
	}
	for _, s := range badStages() {
		expectCall(t, impl.GoodStage, in(s), false)
	}
}

func TestFactorOf(t *testing.T) {
	for _, s := range goodStages() {
		factor := 1
		if s.Kind == impl.StageExpand {
			factor = s.A
		}
		expectCall(t, impl.FactorOf, in(s), factor)
	}
	for _, s := range badStages() {
		expectCall(t, impl.FactorOf, in(s), 0)
	}
	expectCall(t, impl.FactorOf, in(expandBy(1, 5)), 1)
	expectCall(t, impl.FactorOf, in(expandBy(2, 5)), 2)
	expectCall(t, impl.FactorOf, in(expandBy(3, 5)), 3)
	expectCall(t, impl.FactorOf, in(mapBy(100, 5)), 1)
	expectCall(t, impl.FactorOf, in(filterBy(100, 5)), 1)
	expectCall(t, impl.FactorOf, in(poisonBy(1, 0)), 1)
}

func TestBadStageIsRefused(t *testing.T) {
	fine, fails, empty := mapBy(1, 0), poisonBy(1, 0), filterBy(2, 1)
	for _, s := range badStages() {
		for _, v := range []int{math.MinInt, -1000001, -1000000, -1, 0, 1, 2, 1000000, 1000001, math.MaxInt} {
			expectCall(t, impl.ApplyStage, in(s, v), []int{}, false, false)
		}
		for _, l := range [][]impl.Stage{
			{s}, {s, s}, {s, fine}, {fine, s}, {fine, s, fine}, {s, fails}, {fails, s}, {empty, s}, {s, empty},
			{fine, fine, fine, fine, fine, fine, fine, s}, {s, fine, fine, fine, fine, fine, fine, fine},
		} {
			expectCall(t, impl.ApplyChain, in(l, 4), []int{}, false, false)
		}
	}
}

func TestNoValueIsRefused(t *testing.T) {
	for _, v := range []int{math.MinInt, math.MinInt + 1, -1000001, 1000001, math.MaxInt - 1, math.MaxInt} {
		expectCall(t, impl.ApplyChain, in([]impl.Stage{}, v), []int{}, false, false)
		for _, s := range goodStages() {
			expectCall(t, impl.ApplyStage, in(s, v), []int{}, false, false)
			expectCall(t, impl.ApplyChain, in([]impl.Stage{s}, v), []int{}, false, false)
			expectCall(t, impl.ApplyChain, in(slices.Repeat([]impl.Stage{s}, 8), v), []int{}, false, false)
		}
	}
}

// applied is one call of ApplyStage on a good stage and a value: what comes out of it, where it does not fail.
type applied struct {
	s   impl.Stage
	v   int
	out []int
}

func expectApplied(t *testing.T, calls []applied) {
	t.Helper()
	for _, c := range calls {
		expectCall(t, impl.ApplyStage, in(c.s, c.v), c.out, false, true)
		expectCall(t, impl.ApplyChain, in([]impl.Stage{c.s}, c.v), c.out, false, true)
	}
}

func TestStageMap(t *testing.T) {
	expectApplied(t, []applied{
		{mapBy(2, 5), 10, []int{25}},
		{mapBy(-3, 1), 4, []int{-11}},
		{mapBy(-3, -1), -4, []int{11}},
		{mapBy(0, 7), 1000000, []int{7}},
		{mapBy(0, 0), -5, []int{0}},
		{mapBy(1, 0), 1000000, []int{1000000}},
		{mapBy(1, 0), -1000000, []int{-1000000}},
		{mapBy(-1, 0), -1000000, []int{1000000}},
		{mapBy(1, 1), 999999, []int{1000000}},
		{mapBy(1, 1), 1000000, []int{1000000}},
		{mapBy(1, -1), -999999, []int{-1000000}},
		{mapBy(1, -1), -1000000, []int{-1000000}},
		{mapBy(100, 0), 10000, []int{1000000}},
		{mapBy(100, 0), 10001, []int{1000000}},
		{mapBy(100, 0), -10000, []int{-1000000}},
		{mapBy(100, 0), -10001, []int{-1000000}},
		{mapBy(100, 0), 9999, []int{999900}},
		{mapBy(100, 1000000), 1000000, []int{1000000}},
		{mapBy(100, -1000000), -1000000, []int{-1000000}},
		{mapBy(-100, 1000000), 1000000, []int{-1000000}},
		{mapBy(-100, -1000000), -1000000, []int{1000000}},
		// Cut is what it comes to in the end, not on the way.
		{mapBy(2, -1000000), 1000000, []int{1000000}},
		{mapBy(2, -1000000), 999999, []int{999998}},
		{mapBy(2, 1000000), -999999, []int{-999998}},
		{mapBy(100, -1000000), 10001, []int{100}},
		{mapBy(0, 1000000), 3, []int{1000000}},
		{mapBy(0, -1000000), 3, []int{-1000000}},
	})
}

func TestStageFilter(t *testing.T) {
	expectApplied(t, []applied{
		{filterBy(3, 1), 7, []int{7}},
		{filterBy(3, 1), 6, nil},
		{filterBy(3, 1), 8, nil},
		{filterBy(3, 1), 1, []int{1}},
		{filterBy(3, 1), -1, nil},
		{filterBy(3, 2), -1, []int{-1}},
		{filterBy(3, 1), -2, []int{-2}},
		{filterBy(3, 2), -2, nil},
		{filterBy(3, 0), -3, []int{-3}},
		{filterBy(3, 0), 0, []int{0}},
		{filterBy(3, 1), 0, nil},
		{filterBy(1, 0), 0, []int{0}},
		{filterBy(1, 0), -1000000, []int{-1000000}},
		{filterBy(1, 0), 1000000, []int{1000000}},
		{filterBy(1000, 0), 1000000, []int{1000000}},
		{filterBy(1000, 0), -1000000, []int{-1000000}},
		{filterBy(1000, 999), -1, []int{-1}},
		{filterBy(1000, 1), -1, nil},
		{filterBy(1000, 999), 999, []int{999}},
		{filterBy(1000, 999), 1000, nil},
		{filterBy(999, 1), 1000000, []int{1000000}},
		{filterBy(999, 998), -1000000, []int{-1000000}},
		{filterBy(999, 1), -1000000, nil},
	})
}

func TestStageExpand(t *testing.T) {
	expectApplied(t, []applied{
		{expandBy(1, 5), 1, []int{1}},
		{expandBy(2, 5), 1, []int{1, 6}},
		{expandBy(3, 5), 1, []int{1, 6, 11}},
		{expandBy(3, -5), 1, []int{1, -4, -9}},
		{expandBy(3, 0), -7, []int{-7, -7, -7}},
		{expandBy(2, 0), 0, []int{0, 0}},
		{expandBy(1, 1000), 1000000, []int{1000000}},
		{expandBy(1, -1000), -1000000, []int{-1000000}},
		{expandBy(3, 1000), 998000, []int{998000, 999000, 1000000}},
		{expandBy(3, 1000), 998001, []int{998001, 999001, 1000000}},
		{expandBy(3, 1000), 999000, []int{999000, 1000000, 1000000}},
		{expandBy(3, 1000), 999001, []int{999001, 1000000, 1000000}},
		{expandBy(3, 1000), 1000000, []int{1000000, 1000000, 1000000}},
		{expandBy(3, -1000), -998000, []int{-998000, -999000, -1000000}},
		{expandBy(3, -1000), -998001, []int{-998001, -999001, -1000000}},
		{expandBy(3, -1000), -999001, []int{-999001, -1000000, -1000000}},
		{expandBy(3, -1000), -1000000, []int{-1000000, -1000000, -1000000}},
		{expandBy(2, 1000), 999500, []int{999500, 1000000}},
		{expandBy(2, -1000), -999500, []int{-999500, -1000000}},
		{expandBy(3, 1000), -1000000, []int{-1000000, -999000, -998000}},
		{expandBy(3, -1000), 1000000, []int{1000000, 999000, 998000}},
		{expandBy(3, 1), -1, []int{-1, 0, 1}},
	})
}

func TestStagePoison(t *testing.T) {
	expectApplied(t, []applied{
		{poisonBy(3, 1), 6, []int{6}},
		{poisonBy(3, 1), 8, []int{8}},
		{poisonBy(3, 1), 0, []int{0}},
		{poisonBy(3, 1), -1, []int{-1}},
		{poisonBy(3, 2), -2, []int{-2}},
		{poisonBy(1000, 1), -1, []int{-1}},
		{poisonBy(1000, 999), 1000000, []int{1000000}},
		{poisonBy(999, 1), -1000000, []int{-1000000}},
	})
	for _, c := range []applied{
		{s: poisonBy(3, 1), v: 7},
		{s: poisonBy(3, 1), v: 1},
		{s: poisonBy(3, 1), v: -2},
		{s: poisonBy(3, 2), v: -1},
		{s: poisonBy(3, 0), v: 0},
		{s: poisonBy(3, 0), v: -3},
		{s: poisonBy(1, 0), v: 0},
		{s: poisonBy(1, 0), v: -1000000},
		{s: poisonBy(1, 0), v: 1000000},
		{s: poisonBy(1000, 0), v: -1000000},
		{s: poisonBy(1000, 999), v: -1},
		{s: poisonBy(999, 998), v: -1000000},
		{s: poisonBy(999, 1), v: 1000000},
	} {
		expectCall(t, impl.ApplyStage, in(c.s, c.v), []int{}, true, true)
		expectCall(t, impl.ApplyChain, in([]impl.Stage{c.s}, c.v), []int{}, true, true)
	}
}

func expectStageModel(t *testing.T, s impl.Stage, values []int, met map[string]int) {
	t.Helper()
	good := modelGoodStage(s)
	expectCall(t, impl.GoodStage, in(s), good)
	expectCall(t, impl.FactorOf, in(s), modelFactorOf(s))
	for _, v := range values {
		out, fails, ok := modelApplyStage(s, v)
		expectCall(t, impl.ApplyStage, in(s, v), out, fails, ok)
		met[fmt.Sprint(len(out), fails, ok)]++
	}
}

func expectMetAll(t *testing.T, met map[string]int, least int, all ...string) {
	t.Helper()
	for _, name := range all {
		if met[name] < least {
			t.Errorf("%q was met too seldom: %v", name, met)
		}
	}
}

func TestStagesAtAllEdges(t *testing.T) {
	met := map[string]int{}
	values := append(edgesOf(-1000000, 1000000), -7, -1, 0, 1, 8)
	spans := map[int][2][]int{
		impl.StageMap:    {edgesOf(-100, 100), edgesOf(-1000000, 1000000)},
		impl.StageFilter: {edgesOf(1, 1000), append(edgesOf(0, 999), 1, 2, 998)},
		impl.StageExpand: {edgesOf(1, 3), edgesOf(-1000, 1000)},
		impl.StagePoison: {edgesOf(1, 1000), append(edgesOf(0, 999), 1, 2, 998)},
	}
	for _, kind := range edgesOf(1, 4) {
		span := spans[min(max(kind, 1), 4)]
		for _, a := range span[0] {
			for _, b := range span[1] {
				expectStageModel(t, impl.Stage{Kind: kind, A: a, B: b}, values, met)
			}
		}
	}
	expectMetAll(t, met, 20, "0 false false", "0 true true", "0 false true", "1 false true", "2 false true", "3 false true")
}

func TestAllSmallStages(t *testing.T) {
	met := map[string]int{}
	for kind := -1; kind <= 6; kind++ {
		for a := -1; a <= 5; a++ {
			for b := -2; b <= 5; b++ {
				expectStageModel(t, impl.Stage{Kind: kind, A: a, B: b}, []int{-6, -5, -4, -3, -2, -1, 0, 1, 2, 3, 4, 5, 6}, met)
			}
		}
	}
	expectMetAll(t, met, 50, "0 false false", "0 true true", "0 false true", "1 false true", "2 false true", "3 false true")
}

// Each value's outcome is held against the model without the guards, which would take long over so many.
func TestRestOfManyValues(t *testing.T) {
	for _, a := range []int{1, 2, 7, 10, 999, 1000} {
		for v := -2100; v <= 2100; v++ {
			lets, fails := 0, 0
			for _, b := range []int{0, 1, a / 2, a - 2, a - 1} {
				for _, s := range []impl.Stage{filterBy(a, b), poisonBy(a, b)} {
					out, failed, ok := impl.ApplyStage(s, v)
					want, wants, good := modelApplyStage(s, v)
					if !slices.Equal(out, want) || failed != wants || ok != good {
						t.Fatalf("%+v of %d: %v %v %v, not %v %v %v", s, v, out, failed, ok, want, wants, good)
					}
					if s.Kind == impl.StageFilter {
						lets += len(out)
					} else if failed {
						fails++
					}
				}
			}
			if lets != fails {
				t.Fatalf("of %d by %d: let by %d times, failed %d times", v, a, lets, fails)
			}
		}
	}
}

// anyGoodStage has its numbers at the ends in many, and is a poison in few.
func (r *turns) anyGoodStage() impl.Stage {
	some := func(least, greatest int) int {
		return []int{least, greatest, least + r.next(greatest-least+1), least + r.next(greatest-least+1)}[r.next(4)]
	}
	switch r.next(10) {
	case 0, 1, 2:
		return mapBy(some(-100, 100), some(-1000000, 1000000))
	case 3, 4:
		a := some(1, 1000)
		return filterBy(a, some(0, a-1))
	case 5, 6, 7, 8:
		return expandBy(some(1, 3), some(-1000, 1000))
	}
	a := some(1, 1000)
	return poisonBy(a, some(0, a-1))
}

func (r *turns) anyValue() int {
	return []int{-1000000 + r.next(3), 1000000 - r.next(3), r.next(2000001) - 1000000, r.next(2001) - 1000}[r.next(4)]
}

func TestManyGoodStages(t *testing.T) {
	r, met := turns(77), map[string]int{}
	for range 2000 {
		s := r.anyGoodStage()
		if !impl.GoodStage(s) {
			t.Fatalf("%+v is not good", s)
		}
		expectStageModel(t, s, []int{r.anyValue(), r.anyValue()}, met)
	}
	expectMetAll(t, met, 50, "0 true true", "0 false true", "1 false true", "2 false true", "3 false true")
}

// Promise 14: stages of any numbers.
func TestAnyStageIsAnswered(t *testing.T) {
	r, met := turns(714), map[string]int{}
	for range 3000 {
		s := impl.Stage{Kind: r.anyInt(), A: r.anyInt(), B: r.anyInt()}
		if r.next(4) == 0 {
			s = impl.Stage{Kind: 1 + r.next(4), A: r.wideInt(), B: r.wideInt()}
		}
		expectStageModel(t, s, []int{r.anyInt(), r.wideInt(), r.anyValue()}, met)
	}
	expectMetAll(t, met, 30, "0 false false", "0 true true", "0 false true", "1 false true", "2 false true", "3 false true")
}
