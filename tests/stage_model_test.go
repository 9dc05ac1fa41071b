package tests

import (
	"slices"

	"loop.example/g00145/impl"
)

// The chapter said a second time, plainly, for comparison over many stages, chains and lists.

func modelIsValue(v int) bool { return v >= -1000000 && v <= 1000000 }

func modelIsIn(least, n, greatest int) bool { return least <= n && n <= greatest }

func modelGoodStage(s impl.Stage) bool {
	switch s.Kind {
	case 1:
		return modelIsIn(-100, s.A, 100) && modelIsValue(s.B)
	case 2, 4:
		return modelIsIn(1, s.A, 1000) && modelIsIn(0, s.B, s.A-1)
	case 3:
		return modelIsIn(1, s.A, 3) && modelIsIn(-1000, s.B, 1000)
	}
	return false
}

func modelCut(v int) int {
	if v > 1000000 {
		return 1000000
	}
	if v < -1000000 {
		return -1000000
	}
	return v
}

// modelLeaves: B is what is left of v just where the difference is so many times A.
func modelLeaves(s impl.Stage, v int) bool { return (v-s.B)%s.A == 0 }

func modelApplyStage(s impl.Stage, v int) ([]int, bool, bool) {
	if !modelGoodStage(s) || !modelIsValue(v) {
		return nil, false, false
	}
	switch {
	case s.Kind == 1:
		return []int{modelCut(v*s.A + s.B)}, false, true
	case s.Kind == 3:
		return []int{v, modelCut(v + s.B), modelCut(v + 2*s.B)}[:s.A], false, true
	case s.Kind == 4 && modelLeaves(s, v):
		return nil, true, true
	case s.Kind == 2 && !modelLeaves(s, v):
		return nil, false, true
	}
	return []int{v}, false, true
}

func modelGoodChain(l []impl.Stage) bool {
	return len(l) <= 8 && !slices.ContainsFunc(l, func(s impl.Stage) bool { return !modelGoodStage(s) })
}

func modelApplyChain(l []impl.Stage, v int) ([]int, bool, bool) {
	if !modelGoodChain(l) || !modelIsValue(v) {
		return nil, false, false
	}
	out, fails := modelFollow(l, v)
	if fails {
		return nil, true, true
	}
	return out, false, true
}

// modelFollow goes with each value to the end of the chain ahead of the next one.
func modelFollow(l []impl.Stage, v int) ([]int, bool) {
	if len(l) == 0 {
		return []int{v}, false
	}
	made, fails, _ := modelApplyStage(l[0], v)
	var out []int
	for _, one := range made {
		more, failed := modelFollow(l[1:], one)
		out, fails = append(out, more...), fails || failed
	}
	return out, fails
}

func modelFactorOf(s impl.Stage) int {
	switch {
	case !modelGoodStage(s):
		return 0
	case s.Kind == 3:
		return s.A
	}
	return 1
}

func modelSplitTurn(v []int, many, turn int) ([][]int, int, bool) {
	if len(v) > 100 || !modelIsIn(1, many, 10) || !modelIsIn(0, turn, many-1) {
		return nil, 0, false
	}
	var lists [][]int
	for k := range many {
		var list []int
		for place, number := range v {
			if (turn+place)%many == k {
				list = append(list, number)
			}
		}
		lists = append(lists, list)
	}
	return lists, (turn + len(v)) % many, true
}

func modelMergeFair(l [][]int, draws []int) ([]int, bool) {
	all, gone := len(slices.Concat(l...)), make([]int, len(l))
	if len(l) > 10 || all > 100 {
		return nil, false
	}
	var merged []int
	for step := range all {
		var left []int
		for k, list := range l {
			if gone[k] < len(list) {
				left = append(left, k)
			}
		}
		draw, many := 0, len(left)
		if step < len(draws) {
			draw = draws[step]
		}
		k := left[(draw%many+many)%many]
		merged = append(merged, l[k][gone[k]])
		gone[k]++
	}
	return merged, true
}
