package tests

import (
	"math"
	"slices"
	"testing"

	"loop.example/g00145/impl"
)

func chain(l ...impl.Stage) []impl.Stage { return l }

func manyOf(s impl.Stage, many int) []impl.Stage { return slices.Repeat([]impl.Stage{s}, many) }

func TestApplyChain(t *testing.T) {
	for name, c := range map[string]struct {
		l   []impl.Stage
		v   int
		out []int
	}{
		"no stages":                         {nil, 5, []int{5}},
		"no stages, the least value":        {nil, -1000000, []int{-1000000}},
		"no stages, the greatest value":     {chain(), 1000000, []int{1000000}},
		"one after the other":               {chain(mapBy(2, 0), mapBy(1, 3)), 5, []int{13}},
		"the other way round":               {chain(mapBy(1, 3), mapBy(2, 0)), 5, []int{16}},
		"cut between":                       {chain(mapBy(100, 0), mapBy(1, -1000000)), 20000, []int{0}},
		"cut between, below":                {chain(mapBy(100, 0), mapBy(1, 1000000)), -20000, []int{0}},
		"value by value":                    {chain(expandBy(3, 10), expandBy(2, 1)), 0, []int{0, 1, 10, 11, 20, 21}},
		"value by value, the other":         {chain(expandBy(2, 1), expandBy(3, 10)), 0, []int{0, 10, 20, 1, 11, 21}},
		"three of them":                     {chain(expandBy(2, 100), expandBy(2, 10), expandBy(2, 1)), 0, []int{0, 1, 10, 11, 100, 101, 110, 111}},
		"falling":                           {chain(expandBy(3, -10), mapBy(-1, 0)), 5, []int{-5, 5, 15}},
		"alike":                             {chain(expandBy(3, 0), expandBy(2, 0)), 4, []int{4, 4, 4, 4, 4, 4}},
		"some are left":                     {chain(expandBy(3, 1), filterBy(2, 0)), 4, []int{4, 6}},
		"the one between is left":           {chain(expandBy(3, 1), filterBy(2, 1)), 4, []int{5}},
		"none is left":                      {chain(expandBy(3, 2), filterBy(2, 1)), 4, nil},
		"none is left for a poison":         {chain(filterBy(2, 1), poisonBy(1, 0)), 4, nil},
		"none is left for many":             {chain(expandBy(3, 2), filterBy(2, 1), expandBy(3, 1), mapBy(1, 1), poisonBy(1, 0)), 4, nil},
		"the first lets nothing by":         {chain(filterBy(2, 1), expandBy(3, 1)), 4, nil},
		"the last lets nothing by":          {chain(expandBy(3, 1), expandBy(3, 1), filterBy(1000, 999)), 4, nil},
		"what would fail was left out":      {chain(expandBy(3, 1), filterBy(2, 0), poisonBy(2, 1)), 4, []int{4, 6}},
		"a poison lets all by":              {chain(expandBy(3, 2), poisonBy(2, 1), mapBy(10, 0)), 4, []int{40, 60, 80}},
		"below 0":                           {chain(expandBy(3, -1), filterBy(3, 2)), 0, []int{-1}},
		"eight maps":                        {manyOf(mapBy(1, 1), 8), 5, []int{13}},
		"eight of one value each":           {manyOf(expandBy(1, 9), 8), 5, []int{5}},
		"eight, the last lets by":           {append(manyOf(mapBy(1, 1), 7), filterBy(1, 0)), 5, []int{12}},
		"eight, the last lets nothing by":   {append(manyOf(mapBy(1, 1), 7), filterBy(2, 1)), 5, nil},
		"eight poisons that let it by":      {manyOf(poisonBy(2, 1), 8), 4, []int{4}},
		"cut of what was expanded":          {chain(expandBy(3, 1000), expandBy(2, 1000)), 998500, []int{998500, 999500, 999500, 1000000, 1000000, 1000000}},
		"cut of what was expanded, below 0": {chain(expandBy(3, -1000), mapBy(2, 0)), -499500, []int{-999000, -1000000, -1000000}},
	} {
		t.Run(name, func(t *testing.T) { expectCall(t, impl.ApplyChain, in(c.l, c.v), c.out, false, true) })
	}
}

func TestChainFails(t *testing.T) {
	for name, c := range map[string]struct {
		l []impl.Stage
		v int
	}{
		"at once":                            {chain(poisonBy(1, 0)), 5},
		"at once, others follow":             {chain(poisonBy(2, 1), expandBy(3, 1), mapBy(1, 1)), 5},
		"at once, nothing would be left":     {chain(poisonBy(2, 1), filterBy(2, 0)), 5},
		"the last stage":                     {chain(mapBy(1, 1), expandBy(3, 2), poisonBy(2, 0)), 5},
		"the last of eight":                  {append(manyOf(mapBy(1, 0), 7), poisonBy(1, 0)), 5},
		"the first of eight":                 {append(chain(poisonBy(1, 0)), manyOf(mapBy(1, 0), 7)...), 5},
		"all of eight":                       {manyOf(poisonBy(1, 0), 8), 5},
		"the first value of many":            {chain(expandBy(3, 1), poisonBy(10, 5)), 5},
		"the second value of many":           {chain(expandBy(3, 1), poisonBy(10, 6)), 5},
		"the last value of many":             {chain(expandBy(3, 1), poisonBy(10, 7)), 5},
		"one of many, others follow":         {chain(expandBy(3, 1), poisonBy(10, 6), expandBy(2, 9)), 5},
		"one of many, the others are let by": {chain(expandBy(3, 1), poisonBy(10, 6), filterBy(1, 0)), 5},
		"one of many, none would be left":    {chain(expandBy(3, 2), poisonBy(10, 7), filterBy(2, 0)), 5},
		"one that is left":                   {chain(expandBy(3, 1), filterBy(2, 0), poisonBy(10, 6)), 5},
		"the last of nine values":            {chain(expandBy(3, 10), expandBy(3, 1), poisonBy(100, 22)), 0},
		"the first of nine values":           {chain(expandBy(3, 10), expandBy(3, 1), poisonBy(100, 0)), 0},
		"behind what was cut":                {chain(mapBy(100, 1), poisonBy(1000, 0)), 1000000},
		"below 0":                            {chain(expandBy(2, -1), poisonBy(3, 2)), 0},
	} {
		t.Run(name, func(t *testing.T) { expectCall(t, impl.ApplyChain, in(c.l, c.v), []int{}, true, true) })
	}
}

func TestLongestChains(t *testing.T) {
	widest := manyOf(expandBy(3, 0), 8)
	expectCall(t, impl.ApplyChain, in(widest, 7), slices.Repeat([]int{7}, 6561), false, true)
	expectCall(t, impl.ApplyChain, in(append(slices.Clone(widest), mapBy(1, 0)), 7), []int{}, false, false)
	for _, s := range []impl.Stage{mapBy(1, 0), filterBy(1, 0), filterBy(2, 1), expandBy(1, 0), expandBy(3, 1), poisonBy(1, 0), poisonBy(2, 1)} {
		out, fails, ok := modelApplyChain(manyOf(s, 8), 4)
		expectCall(t, impl.ApplyChain, in(manyOf(s, 8), 4), out, fails, ok)
		for _, many := range []int{9, 10, 16, 2000} {
			expectCall(t, impl.ApplyChain, in(manyOf(s, many), 4), []int{}, false, false)
		}
	}
	expectCall(t, impl.ApplyChain, in(append(chain(poisonBy(1, 0)), manyOf(mapBy(1, 0), 8)...), 4), []int{}, false, false)
}

func TestEmptyChains(t *testing.T) {
	for _, l := range [][]impl.Stage{nil, {}, make([]impl.Stage, 0, 5)} {
		for _, v := range []int{-1000000, -1, 0, 1, 1000000} {
			if out, fails, ok := impl.ApplyChain(l, v); !slices.Equal(out, []int{v}) || fails || !ok {
				t.Error(v, out, fails, ok)
			}
		}
		for _, v := range []int{math.MinInt, -1000001, 1000001, math.MaxInt} {
			if out, fails, ok := impl.ApplyChain(l, v); len(out) > 0 || fails || ok {
				t.Error(v, out, fails, ok)
			}
		}
	}
}

func expectChainModel(t *testing.T, l []impl.Stage, v int, met map[string]int) {
	t.Helper()
	out, fails, ok := modelApplyChain(l, v)
	expectCall(t, impl.ApplyChain, in(l, v), out, fails, ok)
	switch {
	case !ok:
		met["refused"]++
	case fails:
		met["fails"]++
	case len(out) == 0:
		met["nothing"]++
	case len(out) == 1:
		met["one"]++
	default:
		met["many"]++
	}
}

func TestAllSmallChains(t *testing.T) {
	kinds := chain(mapBy(-2, 1), filterBy(2, 0), filterBy(3, 1), expandBy(2, 1), expandBy(3, -2), poisonBy(4, 3), poisonBy(1, 1))
	met := map[string]int{}
	for _, l := range listsOf(kinds, 4) {
		for _, v := range []int{-3, 0, 1, 2} {
			expectChainModel(t, l, v, met)
		}
	}
	expectMetAll(t, met, 100, "refused", "fails", "nothing", "one", "many")
}

// anyGoodChain has filters that let much by and poisons that fail seldom, so that many come to its end.
func (r *turns) anyGoodChain(many int) []impl.Stage {
	var l []impl.Stage
	for range many {
		s := r.anyGoodStage()
		switch {
		case s.Kind == impl.StageFilter && r.next(3) > 0:
			s = filterBy(2, r.next(2))
		case s.Kind == impl.StagePoison && r.next(3) > 0:
			s = poisonBy(900+r.next(101), r.next(900))
		case s.Kind == impl.StageMap && r.next(2) > 0:
			s = mapBy(r.next(7)-3, r.next(2001)-1000)
		}
		l = append(l, s)
	}
	return l
}

func TestManyGoodChains(t *testing.T) {
	r, met := turns(777), map[string]int{}
	for range 1500 {
		expectChainModel(t, r.anyGoodChain(r.next(9)), r.anyValue(), met)
	}
	expectMetAll(t, met, 50, "fails", "nothing", "one", "many")
}

// Promise 14: chains of any stages.
func TestAnyChainIsAnswered(t *testing.T) {
	r, met := turns(7714), map[string]int{}
	for range 4000 {
		l := r.anyGoodChain([]int{r.next(9), r.next(9), 8 + r.next(3)}[r.next(3)])
		if len(l) > 0 && r.next(2) == 0 {
			l[r.next(len(l))] = impl.Stage{Kind: r.anyInt(), A: r.anyInt(), B: r.anyInt()}
		}
		expectChainModel(t, l, []int{r.anyValue(), r.anyInt(), r.wideInt()}[r.next(3)], met)
	}
	expectMetAll(t, met, 50, "refused", "fails", "nothing", "one", "many")
}
