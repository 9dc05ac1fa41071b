package tests

import (
	"math"
	"slices"
	"testing"

	"loop.example/g00145/impl"
)

func lists(l ...[]int) [][]int { return l }

func TestSplitTurn(t *testing.T) {
	for name, c := range map[string]struct {
		v          []int
		many, turn int
		hands      [][]int
		next       int
	}{
		"one by one":                 {[]int{1, 2, 3, 4}, 2, 0, lists([]int{1, 3}, []int{2, 4}), 0},
		"the first to the list turn": {[]int{1, 2, 3}, 2, 1, lists([]int{2}, []int{1, 3}), 0},
		"going round":                {[]int{5, 6, 7, 8}, 3, 2, lists([]int{6}, []int{7}, []int{5, 8}), 0},
		"the next in the midst":      {[]int{5, 6}, 3, 0, lists([]int{5}, []int{6}, nil), 2},
		"the next behind the last":   {[]int{5, 6}, 4, 2, lists(nil, nil, []int{5}, []int{6}), 0},
		"no ints":                    {nil, 3, 0, lists(nil, nil, nil), 0},
		"no ints, the turn stays":    {[]int{}, 3, 2, lists(nil, nil, nil), 2},
		"no ints, one list":          {nil, 1, 0, lists(nil), 0},
		"one list":                   {[]int{9, 8, 7}, 1, 0, lists([]int{9, 8, 7}), 0},
		"one int, ten lists":         {[]int{9}, 10, 9, lists(nil, nil, nil, nil, nil, nil, nil, nil, nil, []int{9}), 0},
		"one int, the first of ten":  {[]int{9}, 10, 0, lists([]int{9}, nil, nil, nil, nil, nil, nil, nil, nil, nil), 1},
		"more lists than ints":       {[]int{1, 2, 3}, 5, 3, lists([]int{3}, nil, nil, []int{1}, []int{2}), 1},
		"as many lists as ints":      {[]int{1, 2, 3}, 3, 1, lists([]int{3}, []int{1}, []int{2}), 1},
		"alike":                      {[]int{4, 4, 4, 4, 4}, 2, 0, lists([]int{4, 4, 4}, []int{4, 4}), 1},
		"ends of int":                {[]int{math.MinInt, math.MaxInt, -1}, 2, 0, lists([]int{math.MinInt, -1}, []int{math.MaxInt}), 1},
		"beyond the values":          {[]int{-1000001, 1000001, 5000000}, 2, 1, lists([]int{1000001}, []int{-1000001, 5000000}), 0},
		"a hundred, one list":        {countUp(0, 100), 1, 0, lists(countUp(0, 100)), 0},
	} {
		t.Run(name, func(t *testing.T) {
			expectCall(t, impl.SplitTurn, in(c.v, c.many, c.turn), c.hands, c.next, true)
		})
	}
}

func TestSplitHundred(t *testing.T) {
	for turn := range 10 {
		hands := make([][]int, 10)
		for k := range 10 {
			for round := range 10 {
				hands[(turn+k)%10] = append(hands[(turn+k)%10], 10*round+k)
			}
		}
		expectCall(t, impl.SplitTurn, in(countUp(0, 100), 10, turn), hands, turn, true)
		hands[(turn+9)%10] = hands[(turn+9)%10][:9]
		expectCall(t, impl.SplitTurn, in(countUp(0, 99), 10, turn), hands, (turn+9)%10, true)
	}
}

func TestSplitIsRefused(t *testing.T) {
	for _, v := range [][]int{nil, {7}, {1, 2, 3}, countUp(0, 100)} {
		for _, many := range []int{math.MinInt, -10, -1, 0, 11, 12, math.MaxInt} {
			for _, turn := range []int{math.MinInt, -1, 0, 1, 9, 10, 11, math.MaxInt} {
				expectCall(t, impl.SplitTurn, in(v, many, turn), [][]int{}, 0, false)
			}
		}
		for many := 1; many <= 10; many++ {
			for _, turn := range []int{math.MinInt, -many, -1, many, many + 1, 2 * many, math.MaxInt} {
				expectCall(t, impl.SplitTurn, in(v, many, turn), [][]int{}, 0, false)
			}
		}
	}
	for _, length := range []int{101, 102, 200, 3000} {
		for many := 1; many <= 10; many++ {
			expectCall(t, impl.SplitTurn, in(countUp(0, length), many, many-1), [][]int{}, 0, false)
		}
	}
}

func TestMergeFair(t *testing.T) {
	three := lists([]int{1, 2, 3}, []int{10, 20}, []int{100})
	for name, c := range map[string]struct {
		l      [][]int
		draws  []int
		merged []int
	}{
		"no lists":                       {nil, nil, nil},
		"no lists, draws are left over":  {nil, []int{1, 2, 3}, nil},
		"an empty list":                  {lists(nil), []int{4}, nil},
		"empty lists":                    {lists(nil, []int{}, nil), []int{4, 5}, nil},
		"ten empty lists":                {make([][]int, 10), nil, nil},
		"one list":                       {lists([]int{3, 1, 2}), nil, []int{3, 1, 2}},
		"one list, any draws":            {lists([]int{3, 1, 2}), []int{7, -9, math.MinInt}, []int{3, 1, 2}},
		"no draws: list by list":         {three, nil, []int{1, 2, 3, 10, 20, 100}},
		"draws 0 are none":               {three, []int{0, 0, 0, 0, 0, 0}, []int{1, 2, 3, 10, 20, 100}},
		"in turn":                        {three, []int{0, 1, 2, 0, 1}, []int{1, 10, 100, 2, 20, 3}},
		"the last first":                 {three, []int{2, 1, 1, 0}, []int{100, 10, 20, 1, 2, 3}},
		"draws run out":                  {three, []int{2}, []int{100, 1, 2, 3, 10, 20}},
		"draws run out, the first has":   {three, []int{1, 1}, []int{10, 20, 1, 2, 3, 100}},
		"draws are left over":            {three, []int{1, 1, 1, 0, 0, 0, 5, 6, 7}, []int{10, 20, 100, 1, 2, 3}},
		"a list that is done is left":    {three, []int{2, 2, 2, 2, 2, 2}, []int{100, 1, 2, 3, 10, 20}},
		"draws above":                    {three, []int{4, 5, 3}, []int{10, 100, 20, 1, 2, 3}},
		"draws below 0":                  {three, []int{-1, -1, -1, -2}, []int{100, 10, 20, 1, 2, 3}},
		"draws far below 0":              {three, []int{-3, -4, -5}, []int{1, 100, 10, 2, 3, 20}},
		"the least int":                  {three, []int{math.MinInt, math.MinInt}, []int{10, 20, 1, 2, 3, 100}},
		"the greatest int":               {three, []int{math.MaxInt, math.MaxInt}, []int{10, 20, 1, 2, 3, 100}},
		"empty lists ahead":              {lists(nil, nil, []int{5}, nil, []int{6}), []int{1}, []int{6, 5}},
		"empty lists are not drawn":      {lists([]int{5}, nil, []int{6}), []int{1}, []int{6, 5}},
		"empty lists are not counted":    {lists([]int{5}, nil, []int{6}), []int{2}, []int{5, 6}},
		"ends of int":                    {lists([]int{math.MinInt}, []int{math.MaxInt}), []int{1}, []int{math.MaxInt, math.MinInt}},
		"alike":                          {lists([]int{4, 4}, []int{4, 5}), []int{1, 1}, []int{4, 5, 4, 4}},
		"a hundred in one":               {lists(countUp(0, 100)), []int{1, 2}, countUp(0, 100)},
		"a hundred in one, empty others": {lists(nil, countUp(0, 100), nil), []int{1, 2}, countUp(0, 100)},
		"a hundred in two":               {lists(countUp(50, 50), countUp(0, 50)), slices.Repeat([]int{1}, 50), countUp(0, 100)},
	} {
		t.Run(name, func(t *testing.T) { expectCall(t, impl.MergeFair, in(c.l, c.draws), c.merged, true) })
	}
}

// The ends of int, taken mod each number of lists: each list holds its own number, and gives it up just where it is drawn.
func TestMergeByEndsOfInt(t *testing.T) {
	least := []int{0, 0, 1, 0, 2, 4, 6, 0, 1, 2}
	greatest := []int{0, 1, 1, 3, 2, 1, 0, 7, 7, 7}
	for many := 1; many <= 10; many++ {
		var l [][]int
		for k := range many {
			l = append(l, []int{k})
		}
		for draw, place := range map[int]int{math.MinInt: least[many-1], math.MaxInt: greatest[many-1], -1: many - 1, -many: 0, many: 0} {
			merged := append([]int{place}, slices.Delete(countUp(0, many), place, place+1)...)
			expectCall(t, impl.MergeFair, in(l, []int{draw}), merged, true)
		}
	}
}

func TestMergeIsRefused(t *testing.T) {
	for name, l := range map[string][][]int{
		"eleven lists":              lists([]int{1}, []int{2}, []int{3}, []int{4}, []int{5}, []int{6}, []int{7}, []int{8}, []int{9}, []int{10}, []int{11}),
		"eleven empty lists":        make([][]int, 11),
		"far too many lists":        make([][]int, 2000),
		"eleven, one has something": append(make([][]int, 10), []int{1}),
		"101 in one":                lists(countUp(0, 101)),
		"101 in one, the last":      lists(nil, nil, countUp(0, 101)),
		"101 in two":                lists(countUp(0, 100), []int{1}),
		"101 in two, the other way": lists([]int{1}, countUp(0, 100)),
		"101 in halves":             lists(countUp(0, 50), countUp(0, 51)),
		"101 in ten":                append(slices.Repeat([][]int{countUp(0, 10)}, 9), countUp(0, 11)),
		"101 in eleven":             append(slices.Repeat([][]int{countUp(0, 10)}, 10), []int{1}),
		"far too many ints":         lists(countUp(0, 3000), countUp(0, 3000)),
	} {
		t.Run(name, func(t *testing.T) {
			for _, draws := range [][]int{nil, {0}, {math.MinInt, math.MaxInt}, countUp(0, 101)} {
				expectCall(t, impl.MergeFair, in(l, draws), []int{}, false)
			}
		})
	}
}

func TestMergeHundred(t *testing.T) {
	ten := slices.Repeat([][]int{countUp(0, 10)}, 10)
	expectCall(t, impl.MergeFair, in(ten, []int{}), slices.Repeat(countUp(0, 10), 10), true)
	turnByTurn := slices.Repeat(countUp(0, 10), 9)
	var merged []int
	for number := range 10 {
		merged = append(merged, slices.Repeat([]int{number}, 10)...)
	}
	expectCall(t, impl.MergeFair, in(ten, turnByTurn), merged, true)
	for _, many := range []int{100, 101, 3000} {
		expectCall(t, impl.MergeFair, in(ten, slices.Repeat([]int{0}, many)), slices.Repeat(countUp(0, 10), 10), true)
	}
}

// The lists may lie behind one another in one memory, or be one and the same: each is gone through by itself.
func TestMergedListsInOneMemory(t *testing.T) {
	memory := countUp(0, 9)
	l := lists(memory[:3], memory[3:6], memory[:3], memory[2:4])
	merged, ok := impl.MergeFair(l, []int{1, 2, 3, -1, 0, 2})
	if want := []int{3, 0, 2, 3, 0, 1, 1, 2, 4, 5, 2}; !ok || !slices.Equal(merged, want) {
		t.Error(merged, ok, want)
	}
	if !slices.Equal(memory, countUp(0, 9)) || len(l[0]) != 3 || len(l[3]) != 2 {
		t.Error("written into:", memory, l)
	}
}

func TestEmptyListsAreDealt(t *testing.T) {
	for _, v := range [][]int{nil, {}, make([]int, 0, 5)} {
		hands, next, ok := impl.SplitTurn(v, 3, 1)
		if !ok || next != 1 || len(hands) != 3 || len(slices.Concat(hands...)) > 0 {
			t.Error(hands, next, ok)
		}
		for _, l := range [][][]int{nil, {}, {v}, {v, v}, make([][]int, 0, 5)} {
			if merged, ok := impl.MergeFair(l, v); !ok || len(merged) > 0 {
				t.Error(merged, ok)
			}
		}
	}
}

func expectDealModel(t *testing.T, v []int, many, turn int, met map[string]int) {
	t.Helper()
	hands, next, ok := modelSplitTurn(v, many, turn)
	expectCall(t, impl.SplitTurn, in(v, many, turn), hands, next, ok)
	if ok {
		met["dealt"]++
	} else {
		met["not dealt"]++
	}
}

func expectMergeModel(t *testing.T, l [][]int, draws []int, met map[string]int) {
	t.Helper()
	merged, ok := modelMergeFair(l, draws)
	expectCall(t, impl.MergeFair, in(l, draws), merged, ok)
	switch {
	case !ok:
		met["not merged"]++
	case len(merged) == 0:
		met["nothing merged"]++
	case len(draws) < len(merged):
		met["draws run out"]++
	case len(draws) > len(merged):
		met["draws left over"]++
	default:
		met["as many draws"]++
	}
}

func TestAllSmallDeals(t *testing.T) {
	met := map[string]int{}
	for length := range 25 {
		for many := -1; many <= 12; many++ {
			for turn := -1; turn <= many+1; turn++ {
				expectDealModel(t, countUp(7, length), many, turn, met)
			}
		}
	}
	expectMetAll(t, met, 500, "dealt", "not dealt")
}

func TestAllSmallMerges(t *testing.T) {
	met := map[string]int{}
	for _, l := range listsOf(lists(nil, []int{1}, []int{2, 3}, []int{4, 5, 6}), 3) {
		for _, draws := range listsOf([]int{-1, 0, 1, 5}, 3) {
			expectMergeModel(t, l, draws, met)
		}
	}
	expectMetAll(t, met, 100, "nothing merged", "draws run out", "draws left over", "as many draws")
}

// anyHands are lists that may be merged: at most ten, with at most 100 ints in all.
func (r *turns) anyHands() [][]int {
	hands := make([][]int, r.next(11))
	if len(hands) == 0 {
		return nil
	}
	for range []int{r.next(12), r.next(101), 100}[r.next(3)] {
		k := r.next(1 + r.next(len(hands)))
		hands[k] = append(hands[k], r.wideInt())
	}
	return hands
}

func (r *turns) anyDraws(many int) []int {
	var draws []int
	for range many {
		draws = append(draws, []int{r.wideInt(), r.next(41) - 20, r.next(10), r.next(10)}[r.next(4)])
	}
	return draws
}

func TestManyDealsAndMerges(t *testing.T) {
	r, met := turns(78), map[string]int{}
	for range 1000 {
		many := 1 + r.next(10)
		expectDealModel(t, r.anyValues([]int{r.next(101), 100}[r.next(2)]), many, r.next(many), met)
		hands := r.anyHands()
		all := len(slices.Concat(hands...))
		expectMergeModel(t, hands, r.anyDraws([]int{r.next(20), all, r.next(120)}[r.next(3)]), met)
	}
	expectMetAll(t, met, 50, "dealt", "draws run out", "draws left over", "as many draws")
}

// Promise 14: deals and merges of any numbers.
func TestAnyDealIsAnswered(t *testing.T) {
	r, met := turns(7814), map[string]int{}
	for range 1000 {
		expectDealModel(t, r.anyValues([]int{r.next(5), 95 + r.next(10)}[r.next(2)]), r.anyInt(), r.anyInt(), met)
		hands := r.anyHands()
		for range r.next(3) * r.next(3) {
			hands = append(hands, r.anyValues(r.next(30)))
		}
		expectMergeModel(t, hands, r.anyDraws(r.next(110)), met)
	}
	expectMetAll(t, met, 50, "dealt", "not dealt", "not merged", "draws run out", "draws left over")
}
