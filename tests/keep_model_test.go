package tests

import (
	"slices"

	"loop.example/g00145/impl"
)

// The chapter said a second time, plainly, for comparison over many keepers.
// What is done is told first, of keepers as they are; what they are then is read off from what was told.

func modelGoodTicks(ticks []int, most int) bool {
	outside := func(tick int) bool { return !modelIsIn(0, tick, 1000000) }
	return len(ticks) <= most && slices.IsSorted(ticks) && !slices.ContainsFunc(ticks, outside)
}

func modelGoodKeeper(k impl.Keeper) bool {
	switch {
	case !modelIsIn(1, k.Kind, 2), !modelIsIn(0, k.MaxR, 10), !modelIsIn(1, k.Within, 1000):
		return false
	case !modelIsIn(1, len(k.Runs), 10), !modelGoodTicks(k.Faults, k.MaxR):
		return false
	case k.Over && len(k.Faults) > 0, k.Over && slices.Index(k.Runs, true) >= 0:
		return false
	}
	return true
}

func modelGoodKeepers(l []impl.Keeper) bool {
	if !modelIsIn(1, len(l), 8) {
		return false
	}
	taken := map[[2]int]int{}
	for number, k := range l {
		taken[[2]int{k.Up, k.Child}]++
		switch {
		case !modelGoodKeeper(k):
			return false
		case number == 0 && k.Up != -1, number > 0 && !modelIsIn(0, k.Up, number-1):
			return false
		case number == 0:
			continue
		case !modelIsIn(0, k.Child, len(l[k.Up].Runs)-1), taken[[2]int{k.Up, k.Child}] > 1:
			return false
		case !l[k.Up].Runs[k.Child] && !k.Over:
			return false
		}
	}
	return true
}

// modelBelow are the numbers of those that stand for the child: one, or none.
func modelBelow(l []impl.Keeper, keeper, child int) []int {
	var numbers []int
	for number := 1; number < len(l); number++ {
		if l[number].Up == keeper && l[number].Child == child {
			numbers = append(numbers, number)
		}
	}
	return numbers
}

// modelAlive are the children at the place first or behind it that run, in order.
func modelAlive(k impl.Keeper, first int) []int {
	var children []int
	for child := max(first, 0); child < len(k.Runs); child++ {
		if k.Runs[child] {
			children = append(children, child)
		}
	}
	return children
}

func modelStops(l []impl.Keeper, keeper int, children []int) []impl.Act {
	var told []impl.Act
	for _, child := range slices.Backward(children) {
		for _, below := range modelBelow(l, keeper, child) {
			told = append(told, modelStops(l, below, modelAlive(l[below], 0))...)
		}
		told = append(told, impl.Act{Keeper: keeper, Kind: 1, Child: child})
	}
	return told
}

func modelStarts(l []impl.Keeper, keeper int, children []int) []impl.Act {
	var told []impl.Act
	for _, child := range children {
		told = append(told, impl.Act{Keeper: keeper, Kind: 2, Child: child})
		for _, below := range modelBelow(l, keeper, child) {
			told = append(told, modelStarts(l, below, countUp(0, len(l[below].Runs)))...)
		}
	}
	return told
}

// modelAfter are the keepers behind what was told.
func modelAfter(l []impl.Keeper, told []impl.Act) []impl.Keeper {
	next := slices.Clone(l)
	for number := range next {
		next[number].Runs = slices.Clone(l[number].Runs)
	}
	end := func(number int) { next[number].Over, next[number].Faults = true, nil }
	for _, a := range told {
		runs, below := next[a.Keeper].Runs, modelBelow(l, a.Keeper, a.Child)
		switch a.Kind {
		case 1:
			runs[a.Child] = false
			for _, number := range below {
				end(number)
			}
		case 2:
			runs[a.Child] = true
			for _, number := range below {
				next[number].Over, next[number].Faults = false, nil
			}
		default:
			clear(runs)
			end(a.Keeper)
		}
	}
	return next
}

// modelFaults are the Faults behind a fault at the tick, as many as they are.
func modelFaults(k impl.Keeper, tick int) []int {
	var faults []int
	for _, fault := range k.Faults {
		if fault > tick {
			fault = tick
		}
		if tick-fault < k.Within {
			faults = append(faults, fault)
		}
	}
	return append(faults, tick)
}

// modelFault is one child that fails in one keeper, and all that this brings with it.
func modelFault(l []impl.Keeper, keeper, child, tick int) ([]impl.Keeper, []impl.Act) {
	k := l[keeper]
	later := modelAlive(k, child+1)
	faults := modelFaults(k, tick)
	if len(faults) > k.MaxR {
		told := append(modelStops(l, keeper, later), modelStops(l, keeper, modelAlive(impl.Keeper{Runs: k.Runs[:child]}, 0))...)
		told = append(told, impl.Act{Keeper: keeper, Kind: 3})
		next := modelAfter(l, told)
		if k.Up < 0 {
			return next, told
		}
		above, more := modelFault(next, k.Up, k.Child, tick)
		return above, append(told, more...)
	}
	if k.Kind == 1 {
		later = nil
	}
	told := append(modelStops(l, keeper, later), modelStarts(l, keeper, append([]int{child}, later...))...)
	next := modelAfter(l, told)
	next[keeper].Faults = faults
	return next, told
}

func modelFailCode(k impl.Keeper, child, tick int) int {
	switch {
	case !modelIsIn(0, child, len(k.Runs)-1), k.Over, !k.Runs[child]:
		return impl.KeepNone
	case len(k.Faults) > 0 && slices.Max(k.Faults) > tick:
		return impl.KeepBack
	}
	return impl.KeepOk
}

func modelFailChild(k impl.Keeper, child, tick int) (impl.Keeper, []impl.Act, int) {
	if !modelGoodKeeper(k) || !modelIsIn(0, tick, 1000000) {
		return impl.Keeper{}, nil, impl.KeepBad
	}
	if code := modelFailCode(k, child, tick); code != impl.KeepOk {
		return k, nil, code
	}
	up := k.Up
	k.Up = -1
	next, told := modelFault([]impl.Keeper{k}, 0, child, tick)
	next[0].Up = up
	return next[0], told, impl.KeepOk
}

func modelFailIn(l []impl.Keeper, keeper, child, tick int) ([]impl.Keeper, []impl.Act, int) {
	if !modelGoodKeepers(l) || !modelIsIn(0, keeper, len(l)-1) || !modelIsIn(0, tick, 1000000) || len(modelBelow(l, keeper, child)) > 0 {
		return nil, nil, impl.KeepBad
	}
	if code := modelFailCode(l[keeper], child, tick); code != impl.KeepOk {
		return l, nil, code
	}
	next, told := modelFault(l, keeper, child, tick)
	return next, told, impl.KeepOk
}

func modelStopOrder(l []impl.Keeper) ([]impl.Act, bool) {
	if !modelGoodKeepers(l) {
		return nil, false
	}
	return modelStops(l, 0, modelAlive(l[0], 0)), true
}

func modelBackoffOf(tries, base, most int) int {
	if !modelIsIn(1, tries, 30) || !modelIsIn(0, base, 1000000) || !modelIsIn(0, most, 1000000000) {
		return 0
	}
	for range tries - 1 {
		base *= 2
	}
	if base > most {
		return most
	}
	return base
}

// modelGivesUp asks each tick for the one that lies most places ahead of it: if that is near enough, these are too many.
func modelGivesUp(faults []int, most, within int) (int, bool) {
	if !modelGoodTicks(faults, 100) || !modelIsIn(0, most, 10) || !modelIsIn(1, within, 1000) {
		return 0, false
	}
	for place := most; place < len(faults); place++ {
		if faults[place]-faults[place-most] < within {
			return place, true
		}
	}
	return -1, true
}
