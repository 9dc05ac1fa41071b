package tests

import (
	"math"
	"slices"
	"testing"

	"loop.example/g00145/impl"
)

// yard is the plain telling of promise 10: who runs, who is over, and at which ticks children of a keeper failed since it began.
// How keepers stand to one another is asked of those it began with: that does not change.
type yard struct {
	stand []impl.Keeper
	runs  map[[2]int]bool
	over  map[int]bool
	ticks map[int][]int
	// Where a tick lies back what was too far ahead once must not be counted again.
	goesBack bool
}

func newYard(l []impl.Keeper) *yard {
	y := &yard{stand: l, runs: map[[2]int]bool{}, over: map[int]bool{}, ticks: map[int][]int{}}
	for number, k := range l {
		y.over[number] = k.Over
		y.ticks[number] = slices.Clone(k.Faults)
		for child, runs := range k.Runs {
			y.runs[[2]int{number, child}] = runs
		}
	}
	return y
}

// below is the number of the keeper that stands for the child, or -1.
func (y *yard) below(keeper, child int) int {
	return slices.IndexFunc(y.stand, func(k impl.Keeper) bool { return k.Up == keeper && k.Child == child })
}

func (y *yard) anyRuns(keeper int) bool {
	for child := range y.stand[keeper].Runs {
		if y.runs[[2]int{keeper, child}] {
			return true
		}
	}
	return false
}

func (y *yard) codeOf(keeper, child, tick int) int {
	ticks := y.ticks[keeper]
	switch {
	case y.below(keeper, child) >= 0:
		return impl.KeepBad
	case !y.runs[[2]int{keeper, child}]:
		return impl.KeepNone
	case len(ticks) > 0 && ticks[len(ticks)-1] > tick:
		return impl.KeepBack
	}
	return impl.KeepOk
}

// fails puts the tick behind the keeper's, and asks GivesUp of them whether this is the place.
func (y *yard) fails(t *testing.T, keeper, tick int) bool {
	t.Helper()
	var ticks []int
	for _, each := range append(y.ticks[keeper], tick) {
		ticks = append(ticks, min(each, tick))
	}
	ticks = ticks[max(0, len(ticks)-100):]
	if y.goesBack {
		ticks = y.near(keeper, ticks)
	}
	place, ok := impl.GivesUp(ticks, y.stand[keeper].MaxR, y.stand[keeper].Within)
	if !ok || place >= 0 && place != len(ticks)-1 {
		t.Fatalf("GivesUp of %v: %d, %v: it should have given up ahead", ticks, place, ok)
	}
	y.ticks[keeper] = ticks
	return place >= 0
}

// near are the ticks that count at the last of them.
func (y *yard) near(keeper int, ticks []int) []int {
	var some []int
	for _, tick := range ticks {
		if tick > ticks[len(ticks)-1]-y.stand[keeper].Within {
			some = append(some, tick)
		}
	}
	return some
}

// follow reads what was told, act by act: each must be of one of whom it can be.
func (y *yard) follow(t *testing.T, told []impl.Act, ends []int) {
	t.Helper()
	for _, a := range told {
		at := [2]int{a.Keeper, a.Child}
		below := y.below(a.Keeper, a.Child)
		switch a.Kind {
		case impl.ActStop:
			if !y.runs[at] || below >= 0 && y.anyRuns(below) {
				t.Fatalf("stopped %v, which does not run or has others below it, in %v", at, told)
			}
			y.runs[at] = false
			if below >= 0 {
				y.over[below], y.ticks[below] = true, nil
			}
		case impl.ActStart:
			if y.runs[at] || y.over[a.Keeper] || below >= 0 && !y.over[below] {
				t.Fatalf("started %v, which runs or cannot, in %v", at, told)
			}
			y.runs[at] = true
			if below >= 0 {
				y.over[below] = false
			}
		case impl.ActGiveUp:
			if len(ends) == 0 || a.Keeper != ends[0] || a.Child != 0 || y.anyRuns(a.Keeper) {
				t.Fatalf("%d gave up, not one of %v, or one of its children runs, in %v", a.Keeper, ends, told)
			}
			ends = ends[1:]
			y.over[a.Keeper], y.ticks[a.Keeper] = true, nil
			if k := y.stand[a.Keeper]; k.Up >= 0 {
				y.runs[[2]int{k.Up, k.Child}] = false
			}
		default:
			t.Fatal("no act:", a)
		}
	}
	if len(ends) > 0 {
		t.Fatalf("%v did not give up in %v", ends, told)
	}
}

// fail is one FailIn held against the yard; it answers how many gave up.
func (y *yard) fail(t *testing.T, l []impl.Keeper, keeper, child, tick int) ([]impl.Keeper, []impl.Act, int, int) {
	t.Helper()
	next, told, code := impl.FailIn(l, keeper, child, tick)
	if want := y.codeOf(keeper, child, tick); code != want {
		t.Fatalf("%d of %d at %d in %+v: code %d, not %d", child, keeper, tick, l, code, want)
	}
	if code != impl.KeepOk {
		if len(told) > 0 || code == impl.KeepBad && next != nil || code != impl.KeepBad && !sameValues([]any{next}, []any{l}) {
			t.Fatalf("code %d, but %+v, %v", code, next, told)
		}
		return l, nil, code, 0
	}
	var ends []int
	at := keeper
	for at >= 0 && y.fails(t, at, tick) {
		ends = append(ends, at)
		at = y.stand[at].Up
	}
	y.runs[[2]int{keeper, child}] = false
	y.follow(t, told, ends)
	return next, told, code, len(ends)
}

// expect holds the keepers against the yard, and the order in which they would be stopped.
func (y *yard) expect(t *testing.T, l []impl.Keeper) {
	t.Helper()
	var want []impl.Keeper
	running := 0
	for number, k := range y.stand {
		k.Over, k.Runs, k.Faults = y.over[number], nil, y.near(number, y.ticks[number])
		for child := range y.stand[number].Runs {
			runs := y.runs[[2]int{number, child}]
			k.Runs = append(k.Runs, runs)
			if runs {
				running++
			}
		}
		want = append(want, k)
	}
	if !impl.GoodKeepers(l) || !sameValues([]any{l}, []any{want}) {
		t.Fatalf("%+v, not %+v", l, want)
	}
	order, ok := impl.StopOrder(l)
	if !ok || len(order) != running {
		t.Fatalf("%d run, but %v, %v", running, order, ok)
	}
	again := newYard(l)
	again.follow(t, order, nil)
	for at, runs := range again.runs {
		if runs {
			t.Fatalf("%v was not stopped in %v", at, order)
		}
	}
}

// anyPlace is a child for which no keeper stands yet, if there is one.
func (r *turns) anyPlace(l []impl.Keeper) (int, int, bool) {
	var free [][2]int
	for number, k := range l {
		for child := range k.Runs {
			if len(modelBelow(l, number, child)) == 0 {
				free = append(free, [2]int{number, child})
			}
		}
	}
	if len(free) == 0 {
		return 0, 0, false
	}
	at := free[r.next(len(free))]
	return at[0], at[1], true
}

// anyStanding are at most so many keepers, without Faults; whoever stands for a child that does not run is over.
func (r *turns) anyStanding(many int, maxR, within []int, allRun bool) []impl.Keeper {
	var l []impl.Keeper
	for number := range many {
		k := impl.Keeper{Kind: 1 + r.next(2), MaxR: maxR[r.next(len(maxR))], Within: within[r.next(len(within))], Up: -1}
		for range 1 + r.next(4)*r.next(4) {
			k.Runs = append(k.Runs, allRun || r.next(5) > 0)
		}
		if number > 0 {
			up, child, some := r.anyPlace(l)
			if !some {
				return l
			}
			k = under(up, child, k)
			if !l[up].Runs[child] {
				k = over(k)
			}
		}
		l = append(l, k)
	}
	return l
}

// anyRunning is a child that runs and for which no keeper stands, in most.
func (y *yard) anyRunning(r *turns) (int, int) {
	var all [][2]int
	for number, k := range y.stand {
		for child := range k.Runs {
			if y.runs[[2]int{number, child}] && y.below(number, child) < 0 {
				all = append(all, [2]int{number, child})
			}
		}
	}
	if len(all) == 0 || r.next(12) == 0 {
		number := r.next(len(y.stand))
		return number, r.next(len(y.stand[number].Runs)+2) - 1
	}
	at := all[r.next(len(all))]
	return at[0], at[1]
}

// Promise 10: keepers give up just where the ticks say so; whoever is stopped was running.
func TestPromise10(t *testing.T) {
	codes, ended, deepest, stopped, finished := map[int]int{}, 0, 0, 0, 0
	for seed := range 400 {
		r := turns(seed)
		maxR := [][]int{{0, 1}, {1, 2, 3}, {0, 2, 10}, {3, 10}}[seed%4]
		within := [][]int{{1}, {2, 5, 9}, {20, 1000}}[seed%3]
		l := r.anyStanding(1+r.next(8), maxR, within, seed%5 > 0)
		if !impl.GoodKeepers(l) {
			t.Fatalf("%+v is not good", l)
		}
		y, tick := newYard(l), r.next(5)
		y.goesBack = seed%2 == 0
		for range 150 {
			tick += []int{0, 0, 1, 1, 2, r.next(8)}[r.next(6)]
			at := tick
			if y.goesBack && r.next(5) == 0 {
				at = max(0, tick-1-r.next(5))
			}
			keeper, child := y.anyRunning(&r)
			next, told, code, ends := y.fail(t, l, keeper, child, at)
			l = next
			codes[code]++
			ended += ends
			deepest = max(deepest, ends)
			for _, a := range told {
				if a.Kind == impl.ActStop {
					stopped++
				}
			}
			y.expect(t, l)
			if y.over[0] {
				finished++
				break
			}
		}
	}
	expectMet(t, codes, 100, impl.KeepOk, impl.KeepBad, impl.KeepNone, impl.KeepBack)
	if ended < 1000 || deepest < 4 || stopped < 5000 || finished < 100 {
		t.Error("met too seldom:", ended, deepest, stopped, finished)
	}
}

// Promise 10: one keeper, with all ticks at which its children failed from first to last.
func TestOneKeeperGivesUpWhereItsTicksSaySo(t *testing.T) {
	gone, lasted := 0, 0
	for seed := range 600 {
		r := turns(seed)
		within := []int{1, 2, 5, 30, 1000}[r.next(5)]
		k := impl.Keeper{Kind: 1 + seed%2, MaxR: seed % 11, Within: within, Up: r.anyInt(), Child: r.anyInt(), Runs: runsOf("+++++")}
		var ticks []int
		tick, spread := r.next(100), 1+r.next(9)
		for range 100 {
			tick += r.next(1 + spread*within/(1+seed%11))
			ticks = append(ticks, tick)
			place, ok := impl.GivesUp(ticks, k.MaxR, k.Within)
			next, told, code := impl.FailChild(k, r.next(5), tick)
			if !ok || code != impl.KeepOk || next.Over != (place >= 0) || place >= 0 && place != len(ticks)-1 {
				t.Fatalf("%+v at %v: %+v, code %d, and %d, %v", k, ticks, next, code, place, ok)
			}
			if last := told[len(told)-1]; (last.Kind == impl.ActGiveUp) != next.Over {
				t.Fatalf("%+v: %v", next, told)
			}
			k = next
			if k.Over {
				gone++
				break
			}
		}
		if !k.Over {
			lasted++
		}
	}
	if gone < 100 || lasted < 100 {
		t.Error("met too seldom:", gone, lasted)
	}
}

// Promise 10: of ticks that lie equally far apart it can be told ahead where it gives up, and whether.
func TestEachMaxRIsMetAndPassed(t *testing.T) {
	for maxR := range 11 {
		for _, within := range []int{1, 2, 3, 7, 10, 11, 12, 100, 999, 1000} {
			for apart := range 14 {
				// The ticks of the first and of one that is maxR behind it lie maxR times apart from one another.
				wants := -1
				if maxR*apart < within {
					wants = maxR
				}
				k, ticks := oneKeeper(maxR, within, "++"), []int(nil)
				gave := -1
				for n := range 30 {
					ticks = append(ticks, 50+n*apart)
					k, _, _ = impl.FailChild(k, n%2, ticks[n])
					if k.Over {
						gave = n
						break
					}
				}
				place, ok := impl.GivesUp(ticks, maxR, within)
				if gave != wants || place != wants || !ok {
					t.Fatalf("MaxR %d, Within %d, %d apart: gave up at %d, told %d, not %d", maxR, within, apart, gave, place, wants)
				}
			}
		}
	}
}

// Promise 10: eight below one another, of whom each bears one fault: how far the next one goes up can be counted.
func TestEightBelowOneAnother(t *testing.T) {
	for _, kind := range []int{impl.KeepOne, impl.KeepRest} {
		var l []impl.Keeper
		for number := range 8 {
			l = append(l, impl.Keeper{Kind: kind, MaxR: 1, Within: 1000, Up: number - 1, Child: 1, Runs: runsOf("+++")})
		}
		y := newYard(l)
		// Each gives up at every second fault: the first one at the fault 256.
		for n := 1; n <= 256; n++ {
			next, told, code, ends := y.fail(t, l, 7, n%3, 5)
			wants := 0
			for m := n; m%2 == 0; m /= 2 {
				wants++
			}
			if code != impl.KeepOk || ends != wants {
				t.Fatalf("fault %d: code %d, %d gave up, not %d: %v", n, code, ends, wants, told)
			}
			l = next
			y.expect(t, l)
		}
		for number, k := range l {
			if !k.Over {
				t.Errorf("%d is not over: %+v", number, k)
			}
		}
		if next, told, code := impl.FailIn(l, 7, 0, 5); code != impl.KeepNone || len(told) > 0 || !sameValues([]any{next}, []any{l}) {
			t.Errorf("%+v, %v, %d", next, told, code)
		}
	}
}

// What is answered must not hang on who else asks at the same time: each gives up on its own.
func TestKeepersAtOnce(t *testing.T) {
	var l []impl.Keeper
	for number := range 8 {
		l = append(l, under(number-1, 1, restKeeper(0, 5, "+++")))
	}
	l[0].MaxR = 1
	wants, toldWants, _ := modelFailIn(l, 7, 0, 7)
	answers := make(chan []any, 100)
	for range cap(answers) {
		go func() {
			next, told, code := impl.FailIn(l, 7, 0, 7)
			answers <- []any{next, told, code}
		}()
	}
	for range cap(answers) {
		if got := <-answers; !sameValues(got, []any{wants, toldWants, impl.KeepOk}) {
			t.Fatalf("%+v", got)
		}
	}
}

// anyGoodKeepers have Faults, of which some lie behind those of others.
func (r *turns) anyGoodKeepers() []impl.Keeper {
	maxR := [][]int{{0}, {0, 1, 2}, {1, 10}, {10}}[r.next(4)]
	l := r.anyStanding(1+r.next(8), maxR, []int{1, 1 + r.next(9), 1 + r.next(1000), 1000}, r.next(2) == 0)
	for number, k := range l {
		if !k.Over {
			l[number].Faults = r.anyTicks(r.next(k.MaxR+1), 30)
		}
	}
	l[0].Child = r.wideInt()
	return l
}

// anyTicks do not fall.
func (r *turns) anyTicks(many, below int) []int {
	var ticks []int
	for range many {
		ticks = append(ticks, r.next(below))
	}
	slices.Sort(ticks)
	return ticks
}

func TestManyGoodKeepers(t *testing.T) {
	r, codes, ends := turns(10), map[int]int{}, map[int]int{}
	for range 700 {
		l := r.anyGoodKeepers()
		if !impl.GoodKeepers(l) {
			t.Fatalf("%+v is not good", l)
		}
		keeper := r.next(len(l))
		child, ticks := r.next(len(l[keeper].Runs)), []int{r.next(30), 29, 25 + r.next(1010)}
		_, told, _ := modelFailIn(l, keeper, child, 29)
		many := 0
		for _, a := range told {
			if a.Kind == impl.ActGiveUp {
				many++
			}
		}
		ends[many]++
		expectKeepersModel(t, l, []int{keeper}, []int{child, r.next(11) - 1}, ticks, codes)
		k := l[keeper]
		k.Up, k.Child = r.anyInt(), r.anyInt()
		expectKeeperModel(t, k, []int{child}, ticks, codes)
	}
	expectMet(t, codes, 200, impl.KeepOk, impl.KeepBad, impl.KeepNone, impl.KeepBack)
	expectMet(t, ends, 10, 0, 1, 2, 3)
}

// Good keepers in which one number is another are held against the model: many of them are not good any more.
func TestKeepersThatAreNearlyGood(t *testing.T) {
	r, bad := turns(1010), 0
	for range 8000 {
		l := r.anyGoodKeepers()
		number := r.next(len(l))
		k := &l[number]
		switch r.next(9) {
		case 0:
			k.Kind = r.anyInt()
		case 1:
			k.MaxR = []int{r.anyInt(), len(k.Faults) - 1, 11}[r.next(3)]
		case 2:
			k.Within = []int{r.anyInt(), 0, 1001}[r.next(3)]
		case 3:
			k.Up = []int{r.anyInt(), -1, number, number - 1, number + 1}[r.next(5)]
		case 4:
			k.Child = []int{r.anyInt(), -1, r.next(11)}[r.next(3)]
		case 5:
			k.Runs[r.next(len(k.Runs))] = r.next(2) == 0
		case 6:
			k.Runs = make([]bool, []int{0, 1, 10, 11, r.next(12)}[r.next(5)])
		case 7:
			k.Faults = append(k.Faults, []int{r.anyInt(), r.next(30)}[r.next(2)])
		default:
			k.Over = !k.Over
		}
		good := modelGoodKeepers(l)
		if got := impl.GoodKeepers(l); got != good {
			t.Fatalf("GoodKeepers of %+v: %v", l, got)
		}
		if got := impl.GoodKeeper(*k); got != modelGoodKeeper(*k) {
			t.Fatalf("GoodKeeper of %+v: %v", *k, got)
		}
		if !good {
			bad++
		}
	}
	if bad < 2000 || bad > 7000 {
		t.Error("met too seldom:", bad)
	}
}

// Promise 14: keepers of any numbers.
func TestAnyKeepersAreAnswered(t *testing.T) {
	r, codes := turns(1014), map[int]int{}
	for range 700 {
		var l []impl.Keeper
		for number := range r.next(4) * r.next(4) {
			k := impl.Keeper{Kind: r.anyInt(), MaxR: r.anyInt(), Within: r.anyInt(), Up: r.wideInt(), Child: r.anyInt(), Faults: r.anyValues(r.next(4)), Over: r.next(2) == 0}
			for range r.next(13) {
				k.Runs = append(k.Runs, r.next(2) == 0)
			}
			if r.next(8) > 0 {
				k = under(number-1, number%2, restKeeper(r.next(3), 1+r.next(9), "+++", r.anyTicks(r.next(2), 5)...))
			}
			l = append(l, k)
			expectKeeperModel(t, k, []int{r.anyInt(), r.wideInt()}, []int{r.anyInt(), r.wideInt()}, codes)
		}
		expectKeepersModel(t, l, []int{r.anyInt(), r.wideInt()}, []int{r.anyInt(), r.wideInt()}, []int{r.anyInt()}, codes)
		ticks := r.anyTicks(r.next(30), 1+r.next(100))
		if r.next(4) == 0 {
			ticks = append(ticks, r.anyValues(r.next(3))...)
		}
		for _, most := range []int{r.anyInt(), r.wideInt()} {
			for _, within := range []int{r.anyInt(), r.wideInt()} {
				place, ok := modelGivesUp(ticks, most, within)
				expectCall(t, impl.GivesUp, in(ticks, most, within), place, ok)
			}
		}
		tries, base, most := r.anyInt(), []int{r.anyInt(), r.wideInt()}[r.next(2)], []int{r.anyInt(), r.wideInt(), r.next(math.MaxInt32)}[r.next(3)]
		expectCall(t, impl.BackoffOf, in(tries, base, most), modelBackoffOf(tries, base, most))
	}
	expectMet(t, codes, 30, impl.KeepOk, impl.KeepBad, impl.KeepNone, impl.KeepBack)
}
