package tests

import (
	"math"
	"slices"
	"testing"

	"loop.example/g00145/impl"
)

// at makes a timer short enough to be read in a row.
func at(time, id, seq int) impl.Timer { return impl.Timer{Id: id, At: time, Seq: seq} }

func clock(now, seq int, timers ...impl.Timer) impl.Clock {
	return impl.Clock{Now: now, Seq: seq, Timers: timers}
}

// fullClock has that many timers, in pairs of one At; the ids run the other way than the order.
func fullClock(many int) impl.Clock {
	c := clock(3, 100)
	for k := range many {
		c.Timers = append(c.Timers, at(3+k/2*10, 500-k, k+1))
	}
	return c
}

func TestClockConstants(t *testing.T) {
	got := []int{impl.MaxTimers, impl.Forever, impl.TimeOk, impl.TimeBad, impl.TimeTwice, impl.TimeNone, impl.TimeFull, impl.TimeBack}
	if want := []int{30, math.MaxInt64, 0, 1, 2, 3, 4, 5}; !slices.Equal(got, want) {
		t.Error(got, want)
	}
}

func goodClocks() map[string]impl.Clock {
	return map[string]impl.Clock{
		"nothing":                   {},
		"an empty list":             {Timers: []impl.Timer{}},
		"no timers, later":          clock(7, 9),
		"no timers, all armed":      clock(0, 1000000),
		"no timers, end of time":    clock(impl.Forever, 0),
		"due now":                   clock(5, 1, at(5, 0, 1)),
		"due at 0":                  clock(0, 1, at(0, 0, 1)),
		"due at the end of time":    clock(impl.Forever, 2, at(impl.Forever, 3, 1), at(impl.Forever, 4, 2)),
		"seq at the clock's":        clock(0, 4, at(9, 1, 4)),
		"the last seq":              clock(0, 1000000, at(9, 1, 1000000)),
		"the last seq but one":      clock(0, 999999, at(9, 1, 1), at(9, 2, 999999)),
		"later ones of earlier seq": clock(1, 9, at(1, 4, 7), at(2, 3, 5), at(3, 2, 2), at(3, 1, 4)),
		"ids of any kind":           clock(0, 9, at(1, math.MinInt, 1), at(1, -1, 2), at(1, 0, 3), at(1, math.MaxInt, 4)),
		"ids falling":               clock(0, 9, at(1, 3, 1), at(1, 2, 2), at(1, 1, 3)),
		"MaxTimers":                 fullClock(30),
	}
}

func badClocks() map[string]impl.Clock {
	lastTwice, lastEarly, lastSeq := fullClock(30), fullClock(30), fullClock(30)
	lastTwice.Timers[29].Id = lastTwice.Timers[0].Id
	lastEarly.Timers[29].At = 3
	lastSeq.Timers[29].Seq = lastSeq.Timers[1].Seq
	return map[string]impl.Clock{
		"now below 0":                 clock(-1, 0),
		"now least int":               clock(math.MinInt, 0),
		"now below 0, timers":         clock(-1, 1, at(0, 1, 1)),
		"seq below 0":                 clock(0, -1),
		"seq least int":               clock(0, math.MinInt),
		"seq above its most":          clock(0, 1000001),
		"seq greatest int":            clock(0, math.MaxInt, at(1, 1, 1)),
		"more than MaxTimers":         fullClock(31),
		"an id twice, side by side":   clock(0, 9, at(1, 5, 1), at(2, 5, 2)),
		"an id twice, apart":          clock(0, 9, at(1, 5, 1), at(2, 4, 2), at(3, 5, 3)),
		"an id twice, among many":     lastTwice,
		"due before now":              clock(5, 9, at(4, 1, 1)),
		"due before now, least int":   clock(0, 9, at(math.MinInt, 1, 1)),
		"the second due before now":   clock(5, 9, at(5, 1, 1), at(4, 2, 2)),
		"due before the end of time":  clock(impl.Forever, 9, at(impl.Forever-1, 1, 1)),
		"timer's seq 0":               clock(0, 9, at(1, 1, 0)),
		"timer's seq below 0":         clock(0, 9, at(1, 1, -1)),
		"timer's seq least int":       clock(0, 9, at(1, 1, math.MinInt)),
		"timer's seq above":           clock(0, 9, at(1, 1, 10)),
		"timer's seq greatest int":    clock(0, 9, at(1, 1, math.MaxInt)),
		"a timer where none was":      clock(0, 0, at(1, 1, 1)),
		"a timer of 0 where none was": clock(0, 0, at(1, 1, 0)),
		"the last timer's seq":        clock(0, 2, at(1, 1, 1), at(1, 2, 2), at(1, 3, 3)),
		"a seq twice, one at":         clock(0, 9, at(1, 1, 4), at(1, 2, 4)),
		"a seq twice, side by side":   clock(0, 9, at(1, 1, 4), at(2, 2, 4)),
		"a seq twice, apart":          clock(0, 9, at(1, 1, 4), at(2, 2, 2), at(3, 3, 4)),
		"a seq twice, among many":     lastSeq,
		"at falls":                    clock(0, 9, at(2, 1, 1), at(1, 2, 2)),
		"at falls at the end":         clock(0, 9, at(1, 1, 1), at(2, 2, 2), at(1, 3, 3)),
		"at falls, among many":        lastEarly,
		"seq falls":                   clock(0, 9, at(1, 1, 2), at(1, 2, 1)),
		"seq falls at the end":        clock(0, 9, at(1, 1, 1), at(1, 2, 3), at(1, 3, 2)),
		"a hundred thousand timers":   {Seq: 9, Timers: make([]impl.Timer, 100000)},
	}
}

func TestGoodClock(t *testing.T) {
	for name, c := range goodClocks() {
		t.Run(name, func(t *testing.T) { expectCall(t, impl.GoodClock, in(c), true) })
	}
	for name, c := range badClocks() {
		t.Run(name, func(t *testing.T) { expectCall(t, impl.GoodClock, in(c), false) })
	}
}

var anyNumbers = []int{math.MinInt, math.MinInt + 1, -1, 0, 1, 2, 3, 5, 30, 500, 1000000, math.MaxInt - 1, math.MaxInt}

// TimeBad comes ahead of all other codes, with the zero clock and no ids.
func TestBadClockIsRefused(t *testing.T) {
	for name, c := range badClocks() {
		t.Run(name, func(t *testing.T) {
			numbers := anyNumbers
			if len(c.Timers) > 100 {
				numbers = []int{0}
			}
			for _, n := range numbers {
				expectCall(t, impl.ArmTimer, in(c, n, n), impl.Clock{}, impl.TimeBad)
				expectCall(t, impl.StopTimer, in(c, n), impl.Clock{}, impl.TimeBad)
				expectCall(t, impl.ResetTimer, in(c, n, n), impl.Clock{}, impl.TimeBad)
				expectCall(t, impl.AdvanceTo, in(c, n), impl.Clock{}, []int{}, impl.TimeBad)
			}
			expectCall(t, impl.NextFire, in(c), 0, false)
		})
	}
}

func TestLaterBy(t *testing.T) {
	const forever, least = impl.Forever, math.MinInt
	for _, c := range []struct{ now, by, want int }{
		{0, 0, 0}, {0, 1, 1}, {3, 4, 7}, {5, 0, 5}, {5, -1, 5}, {5, -6, 5}, {0, -1, 0},
		{forever - 1, 0, forever - 1}, {forever - 1, 1, forever}, {forever - 1, 2, forever}, {forever - 1, 5, forever},
		{forever, 0, forever}, {forever, 1, forever}, {forever, forever, forever}, {forever, -1, forever}, {forever, least, forever},
		{0, forever, forever}, {1, forever - 1, forever}, {1, forever, forever}, {1, forever - 2, forever - 1},
		{-1, forever, forever - 1}, {-1, 1, 0}, {-7, 3, -4}, {-7, -3, -7}, {-7, 0, -7}, {-7, 10, 3},
		{least, 0, least}, {least, 1, least + 1}, {least, forever, -1}, {least, -1, least}, {least, least, least},
		{0, least, 0}, {1, least, 1}, {-1, least, -1}, {least + 1, forever, 0},
	} {
		expectCall(t, impl.LaterBy, in(c.now, c.by), c.want)
	}
}

func TestLaterByOfAnyInts(t *testing.T) {
	for _, now := range anyNumbers {
		for _, by := range anyNumbers {
			expectCall(t, impl.LaterBy, in(now, by), modelLater(now, by))
		}
	}
	r := turns(2)
	for range 2000 {
		now, by := r.wideInt(), r.wideInt()
		expectCall(t, impl.LaterBy, in(now, by), modelLater(now, by))
	}
}

// wideInt takes of all ints, those near the ends more often.
func (r *turns) wideInt() int {
	wide := r.next(1<<31)<<33 ^ r.next(1<<31)<<12 ^ r.next(1<<12)
	switch r.next(4) {
	case 0:
		return math.MinInt + r.next(5)
	case 1:
		return math.MaxInt - r.next(5)
	}
	return wide
}

func TestArmTimer(t *testing.T) {
	expectCall(t, impl.ArmTimer, in(impl.Clock{}, 7, 5), clock(0, 1, at(5, 7, 1)), impl.TimeOk)
	c := clock(2, 6, at(4, 1, 3), at(6, 2, 1), at(6, 3, 6), at(8, 4, 2))
	expectCall(t, impl.ArmTimer, in(c, 9, 1), clock(2, 7, at(3, 9, 7), at(4, 1, 3), at(6, 2, 1), at(6, 3, 6), at(8, 4, 2)), impl.TimeOk)
	expectCall(t, impl.ArmTimer, in(c, 9, 2), clock(2, 7, at(4, 1, 3), at(4, 9, 7), at(6, 2, 1), at(6, 3, 6), at(8, 4, 2)), impl.TimeOk)
	expectCall(t, impl.ArmTimer, in(c, 9, 4), clock(2, 7, at(4, 1, 3), at(6, 2, 1), at(6, 3, 6), at(6, 9, 7), at(8, 4, 2)), impl.TimeOk)
	expectCall(t, impl.ArmTimer, in(c, 9, 7), clock(2, 7, at(4, 1, 3), at(6, 2, 1), at(6, 3, 6), at(8, 4, 2), at(9, 9, 7)), impl.TimeOk)
	for _, by := range []int{0, -1, -2, -100, math.MinInt} {
		expectCall(t, impl.ArmTimer, in(c, 9, by), clock(2, 7, at(2, 9, 7), at(4, 1, 3), at(6, 2, 1), at(6, 3, 6), at(8, 4, 2)), impl.TimeOk)
	}
	for _, id := range []int{math.MinInt, -1, 0, math.MaxInt} {
		expectCall(t, impl.ArmTimer, in(clock(2, 6, at(4, 1, 3)), id, 1), clock(2, 7, at(3, id, 7), at(4, 1, 3)), impl.TimeOk)
	}
}

// Times at the end of time stay there, in the order in which they were armed.
func TestArmTimerAtTheEndOfTime(t *testing.T) {
	const forever = impl.Forever
	near := clock(forever-1, 2, at(forever-1, 1, 2), at(forever, 2, 1))
	for _, by := range []int{1, 2, 5, forever} {
		expectCall(t, impl.ArmTimer, in(near, 9, by), clock(forever-1, 3, at(forever-1, 1, 2), at(forever, 2, 1), at(forever, 9, 3)), impl.TimeOk)
	}
	expectCall(t, impl.ArmTimer, in(near, 9, 0), clock(forever-1, 3, at(forever-1, 1, 2), at(forever-1, 9, 3), at(forever, 2, 1)), impl.TimeOk)
	end := clock(forever, 2, at(forever, 1, 2))
	for _, by := range []int{math.MinInt, -1, 0, 1, forever} {
		expectCall(t, impl.ArmTimer, in(end, 9, by), clock(forever, 3, at(forever, 1, 2), at(forever, 9, 3)), impl.TimeOk)
		expectCall(t, impl.ResetTimer, in(end, 1, by), clock(forever, 3, at(forever, 1, 3)), impl.TimeOk)
	}
	expectCall(t, impl.ArmTimer, in(clock(0, 0), 9, forever), clock(0, 1, at(forever, 9, 1)), impl.TimeOk)
	expectCall(t, impl.ArmTimer, in(clock(1, 0), 9, forever), clock(1, 1, at(forever, 9, 1)), impl.TimeOk)
	expectCall(t, impl.NextFire, in(end), forever, true)
	expectCall(t, impl.AdvanceTo, in(end, forever), clock(forever, 2), []int{1}, impl.TimeOk)
	expectCall(t, impl.AdvanceTo, in(end, forever-1), end, []int{}, impl.TimeBack)
	expectCall(t, impl.AdvanceTo, in(near, forever), clock(forever, 2), []int{1, 2}, impl.TimeOk)
	expectCall(t, impl.AdvanceTo, in(near, forever-1), clock(forever-1, 2, at(forever, 2, 1)), []int{1}, impl.TimeOk)
}

func TestArmTimerRefused(t *testing.T) {
	c := clock(2, 6, at(4, 1, 3), at(6, 2, 1))
	expectCall(t, impl.ArmTimer, in(c, 1, 1), c, impl.TimeTwice)
	expectCall(t, impl.ArmTimer, in(c, 2, 1), c, impl.TimeTwice)
	full, nearly := fullClock(30), fullClock(29)
	expectCall(t, impl.ArmTimer, in(full, 9, 1), full, impl.TimeFull)
	for _, timer := range full.Timers {
		expectCall(t, impl.ArmTimer, in(full, timer.Id, 1), full, impl.TimeTwice)
	}
	want, _ := modelArm(nearly, 9, 1)
	expectCall(t, impl.ArmTimer, in(nearly, 9, 1), want, impl.TimeOk)
	if len(want.Timers) != 30 {
		t.Error("MaxTimers is not met exactly")
	}
}

// A clock whose Seq is 1000000 is good, but it neither arms nor resets: whatever else would be told.
func TestLastSeq(t *testing.T) {
	before := clock(2, 999999, at(4, 1, 3), at(6, 2, 999999))
	last := clock(2, 1000000, at(4, 1, 3), at(6, 2, 1000000))
	full := fullClock(30)
	full.Seq = 1000000
	expectCall(t, impl.ArmTimer, in(before, 9, 2), clock(2, 1000000, at(4, 1, 3), at(4, 9, 1000000), at(6, 2, 999999)), impl.TimeOk)
	expectCall(t, impl.ResetTimer, in(before, 1, 4), clock(2, 1000000, at(6, 2, 999999), at(6, 1, 1000000)), impl.TimeOk)
	expectCall(t, impl.ArmTimer, in(before, 1, 2), before, impl.TimeTwice)
	expectCall(t, impl.ResetTimer, in(before, 9, 2), before, impl.TimeNone)
	for _, c := range []impl.Clock{last, full, clock(0, 1000000)} {
		for _, id := range []int{1, 2, 9, 500} {
			expectCall(t, impl.ArmTimer, in(c, id, 2), impl.Clock{}, impl.TimeBad)
			expectCall(t, impl.ResetTimer, in(c, id, 2), impl.Clock{}, impl.TimeBad)
		}
		expectCall(t, impl.GoodClock, in(c), true)
	}
	expectCall(t, impl.StopTimer, in(last, 1), clock(2, 1000000, at(6, 2, 1000000)), impl.TimeOk)
	expectCall(t, impl.StopTimer, in(last, 9), last, impl.TimeNone)
	expectCall(t, impl.NextFire, in(last), 4, true)
	expectCall(t, impl.AdvanceTo, in(last, 4), clock(4, 1000000, at(6, 2, 1000000)), []int{1}, impl.TimeOk)
	expectCall(t, impl.AdvanceTo, in(last, 1), last, []int{}, impl.TimeBack)
}

func TestStopTimer(t *testing.T) {
	c := clock(2, 6, at(4, 1, 3), at(6, 2, 1), at(6, 3, 6))
	expectCall(t, impl.StopTimer, in(c, 1), clock(2, 6, at(6, 2, 1), at(6, 3, 6)), impl.TimeOk)
	expectCall(t, impl.StopTimer, in(c, 2), clock(2, 6, at(4, 1, 3), at(6, 3, 6)), impl.TimeOk)
	expectCall(t, impl.StopTimer, in(c, 3), clock(2, 6, at(4, 1, 3), at(6, 2, 1)), impl.TimeOk)
	expectCall(t, impl.StopTimer, in(clock(2, 6, at(4, 1, 3)), 1), clock(2, 6), impl.TimeOk)
	for _, id := range []int{math.MinInt, -1, 0, 4, math.MaxInt} {
		expectCall(t, impl.StopTimer, in(c, id), c, impl.TimeNone)
	}
	expectCall(t, impl.StopTimer, in(impl.Clock{}, 0), impl.Clock{}, impl.TimeNone)
}

func TestResetTimer(t *testing.T) {
	c := clock(2, 6, at(4, 1, 3), at(6, 2, 1), at(6, 3, 6))
	expectCall(t, impl.ResetTimer, in(c, 1, 2), clock(2, 7, at(4, 1, 7), at(6, 2, 1), at(6, 3, 6)), impl.TimeOk)
	expectCall(t, impl.ResetTimer, in(c, 1, 4), clock(2, 7, at(6, 2, 1), at(6, 3, 6), at(6, 1, 7)), impl.TimeOk)
	expectCall(t, impl.ResetTimer, in(c, 2, 4), clock(2, 7, at(4, 1, 3), at(6, 3, 6), at(6, 2, 7)), impl.TimeOk)
	expectCall(t, impl.ResetTimer, in(c, 3, 0), clock(2, 7, at(2, 3, 7), at(4, 1, 3), at(6, 2, 1)), impl.TimeOk)
	expectCall(t, impl.ResetTimer, in(c, 3, -9), clock(2, 7, at(2, 3, 7), at(4, 1, 3), at(6, 2, 1)), impl.TimeOk)
	expectCall(t, impl.ResetTimer, in(c, 2, impl.Forever), clock(2, 7, at(4, 1, 3), at(6, 3, 6), at(impl.Forever, 2, 7)), impl.TimeOk)
	for _, id := range []int{math.MinInt, -1, 0, 4, math.MaxInt} {
		expectCall(t, impl.ResetTimer, in(c, id, 1), c, impl.TimeNone)
	}
	expectCall(t, impl.ResetTimer, in(impl.Clock{}, 0, 1), impl.Clock{}, impl.TimeNone)
	// Where there are MaxTimers one can still be reset: its own place is free by then.
	full := fullClock(30)
	for _, timer := range full.Timers {
		want, _ := modelReset(full, timer.Id, 20)
		expectCall(t, impl.ResetTimer, in(full, timer.Id, 20), want, impl.TimeOk)
	}
	expectCall(t, impl.ResetTimer, in(full, 9, 20), full, impl.TimeNone)
}

func TestNextFire(t *testing.T) {
	expectCall(t, impl.NextFire, in(impl.Clock{}), 0, false)
	expectCall(t, impl.NextFire, in(clock(7, 9)), 0, false)
	expectCall(t, impl.NextFire, in(clock(0, 1, at(0, 5, 1))), 0, true)
	expectCall(t, impl.NextFire, in(clock(2, 6, at(4, 1, 3), at(6, 2, 1))), 4, true)
	expectCall(t, impl.NextFire, in(clock(2, 6, at(6, 1, 3), at(6, 2, 4))), 6, true)
	expectCall(t, impl.NextFire, in(fullClock(30)), 3, true)
}

func TestAdvanceTo(t *testing.T) {
	c := clock(2, 6, at(2, 8, 4), at(4, 1, 3), at(6, 7, 1), at(6, 3, 6), at(8, 5, 2))
	rest := c.Timers
	expectCall(t, impl.AdvanceTo, in(c, 2), clock(2, 6, rest[1:]...), []int{8}, impl.TimeOk)
	expectCall(t, impl.AdvanceTo, in(c, 3), clock(3, 6, rest[1:]...), []int{8}, impl.TimeOk)
	expectCall(t, impl.AdvanceTo, in(c, 4), clock(4, 6, rest[2:]...), []int{8, 1}, impl.TimeOk)
	expectCall(t, impl.AdvanceTo, in(c, 5), clock(5, 6, rest[2:]...), []int{8, 1}, impl.TimeOk)
	expectCall(t, impl.AdvanceTo, in(c, 6), clock(6, 6, rest[4:]...), []int{8, 1, 7, 3}, impl.TimeOk)
	expectCall(t, impl.AdvanceTo, in(c, 8), clock(8, 6), []int{8, 1, 7, 3, 5}, impl.TimeOk)
	expectCall(t, impl.AdvanceTo, in(c, impl.Forever), clock(impl.Forever, 6), []int{8, 1, 7, 3, 5}, impl.TimeOk)
	for _, time := range []int{1, 0, -1, math.MinInt} {
		expectCall(t, impl.AdvanceTo, in(c, time), c, []int{}, impl.TimeBack)
	}
	expectCall(t, impl.AdvanceTo, in(impl.Clock{}, 0), impl.Clock{}, []int{}, impl.TimeOk)
	expectCall(t, impl.AdvanceTo, in(impl.Clock{}, -1), impl.Clock{}, []int{}, impl.TimeBack)
	expectCall(t, impl.AdvanceTo, in(clock(3, 9), 4), clock(4, 9), []int{}, impl.TimeOk)
	expectCall(t, impl.AdvanceTo, in(clock(3, 9, at(9, 1, 1)), 3), clock(3, 9, at(9, 1, 1)), []int{}, impl.TimeOk)
}

func expectClockModel(t *testing.T, c impl.Clock, ids, bys, times []int) {
	t.Helper()
	expectCall(t, impl.GoodClock, in(c), modelGoodClock(c))
	next, some := modelNext(c)
	expectCall(t, impl.NextFire, in(c), next, some)
	for _, id := range ids {
		stopped, code := modelStop(c, id)
		expectCall(t, impl.StopTimer, in(c, id), stopped, code)
		for _, by := range bys {
			armed, code := modelArm(c, id, by)
			expectCall(t, impl.ArmTimer, in(c, id, by), armed, code)
			reset, code := modelReset(c, id, by)
			expectCall(t, impl.ResetTimer, in(c, id, by), reset, code)
		}
	}
	for _, time := range times {
		gone, fired, code := modelAdvance(c, time)
		expectCall(t, impl.AdvanceTo, in(c, time), gone, fired, code)
	}
}

func TestAllSmallClocks(t *testing.T) {
	var kinds []impl.Timer
	for id := range 2 {
		for time := range 3 {
			for seq := range 4 {
				kinds = append(kinds, at(time, id, seq))
			}
		}
	}
	met := 0
	for _, timers := range listsOf(kinds, 2) {
		for now := -1; now <= 2; now++ {
			for seq := -1; seq <= 3; seq++ {
				c := impl.Clock{Now: now, Seq: seq, Timers: timers}
				if got := impl.GoodClock(c); got != modelGoodClock(c) {
					t.Fatalf("GoodClock of %v: %v", c, got)
				}
				if modelGoodClock(c) {
					met++
					expectClockModel(t, c, []int{0, 1, 2}, []int{-1, 0, 1, 2}, []int{-1, 0, 1, 2, 3})
				}
			}
		}
	}
	// 12 without a timer, 72 with one and 112 with two.
	if met != 196 {
		t.Error("not all good clocks were met:", met)
	}
}

// Clocks of three timers and more are made by arming, in every order of three times.
func TestAllSmallArmings(t *testing.T) {
	for _, bys := range listsOf([]int{0, 1, 2}, 5) {
		c := clock(10, 0)
		for k, by := range bys {
			want, code := modelArm(c, 40-k, by)
			expectCall(t, impl.ArmTimer, in(c, 40-k, by), want, code)
			c = want
		}
		for time := 9; time <= 13; time++ {
			gone, fired, code := modelAdvance(c, time)
			expectCall(t, impl.AdvanceTo, in(c, time), gone, fired, code)
		}
	}
}

// Promise 14: clocks of any numbers.
func TestAnyClockIsAnswered(t *testing.T) {
	r := turns(214)
	for range 2000 {
		c := impl.Clock{Now: r.anyInt(), Seq: r.anyInt()}
		for range r.next(34) {
			c.Timers = append(c.Timers, at(r.anyInt(), r.anyInt(), r.anyInt()))
		}
		expectClockModel(t, c, []int{0, r.anyInt()}, []int{r.anyInt()}, []int{r.anyInt(), r.wideInt()})
	}
}

// anyGoodClock has up to MaxTimers timers, many of one At, some at the end of time.
func (r *turns) anyGoodClock() impl.Clock {
	c := clock([]int{0, r.next(50), impl.Forever - r.next(4)}[r.next(3)], r.next(900))
	for range r.next(31) {
		c, _ = modelArm(c, r.next(100)-50, []int{r.next(6), r.next(40), -r.next(3), impl.Forever}[r.next(4)])
	}
	return c
}

func TestManyGoodClocks(t *testing.T) {
	r := turns(22)
	for range 400 {
		c := r.anyGoodClock()
		expectClockModel(t, c, []int{r.next(100) - 50, r.next(100) - 50}, []int{r.next(20), r.wideInt()},
			[]int{modelLater(c.Now, r.next(8)), modelLater(c.Now, r.next(40)), c.Now, c.Now - 1, impl.Forever})
	}
}

// goThrough advances over each of the times and answers all that fired, one after the other.
func goThrough(t *testing.T, c impl.Clock, times []int) (impl.Clock, []int) {
	t.Helper()
	var all []int
	for _, time := range times {
		next, fired, code := impl.AdvanceTo(c, time)
		if code != impl.TimeOk {
			t.Fatalf("AdvanceTo of %v and %d: code %d", c, time, code)
		}
		c, all = next, append(all, fired...)
	}
	return c, all
}

// Promise 2: what fires is all that is due, in its order; in pieces it is the same as at once.
func TestPromise2(t *testing.T) {
	r := turns(2222)
	for range 1500 {
		c := r.anyGoodClock()
		end := modelLater(c.Now, r.next(60))
		var pieces []int
		for range r.next(8) {
			pieces = append(pieces, min(modelLater(c.Now, r.next(60)), end))
		}
		slices.Sort(pieces)
		pieces = append(pieces, end)
		once, fired := goThrough(t, c, []int{end})
		expectAllDue(t, c, end, once, fired)
		inPieces, firedInPieces := goThrough(t, c, pieces)
		if !sameValues([]any{once, fired}, []any{inPieces, firedInPieces}) {
			t.Fatalf("%v to %d at once: %v, %v; over %v: %v, %v", c, end, once, fired, pieces, inPieces, firedInPieces)
		}
		stepped, firedByNext := goByNextFire(t, c, end)
		if !sameValues([]any{once, fired}, []any{stepped, firedByNext}) {
			t.Fatalf("%v to %d at once: %v, %v; from fire to fire: %v, %v", c, end, once, fired, stepped, firedByNext)
		}
	}
}

// expectAllDue looks at each timer alone, whatever the order in the clock.
func expectAllDue(t *testing.T, c impl.Clock, end int, gone impl.Clock, fired []int) {
	t.Helper()
	for _, timer := range c.Timers {
		if due := timer.At <= end; due != slices.Contains(fired, timer.Id) || due == slices.Contains(gone.Timers, timer) {
			t.Fatalf("%v to %d: timer %v, fired %v, left %v", c, end, timer, fired, gone)
		}
	}
	if len(fired)+len(gone.Timers) != len(c.Timers) || gone.Now != end || gone.Seq != c.Seq || !impl.GoodClock(gone) {
		t.Fatalf("%v to %d: fired %v, left %v", c, end, fired, gone)
	}
	for k := 1; k < len(fired); k++ {
		one, other := c.Timers[modelPlace(c, fired[k-1])], c.Timers[modelPlace(c, fired[k])]
		if one.At > other.At || one.At == other.At && one.Seq > other.Seq {
			t.Fatalf("%v to %d: fired %v, not in order", c, end, fired)
		}
	}
}

// goByNextFire goes only to times at which something fires, then to the end.
func goByNextFire(t *testing.T, c impl.Clock, end int) (impl.Clock, []int) {
	t.Helper()
	var all []int
	for next, some := impl.NextFire(c); some && next <= end; next, some = impl.NextFire(c) {
		later, fired := goThrough(t, c, []int{next})
		if len(fired) == 0 {
			t.Fatalf("nothing fires of %v at %d", c, next)
		}
		c, all = later, append(all, fired...)
	}
	c, fired := goThrough(t, c, []int{end})
	if len(fired) > 0 {
		t.Fatal("something was due before its time:", fired)
	}
	return c, all
}

// Promise 2 over long histories: whatever is armed, stopped and reset on the way, each clock is good,
// and each timer fires when the time at which it was armed says so.
func TestPromise2OverHistories(t *testing.T) {
	for seed := range 30 {
		r := turns(seed)
		c := clock(r.next(3), r.next(5))
		due := map[int]int{}
		for step := range 300 {
			before := c
			id, by := r.next(40), r.next(25)-3
			var fired []int
			var code int
			switch r.next(8) {
			case 0, 1, 2, 3:
				c, code = impl.ArmTimer(c, id, by)
				followArm(due, code, id, modelLater(c.Now, by))
			case 4:
				c, code = impl.StopTimer(c, id)
				delete(due, id)
			case 5:
				c, code = impl.ResetTimer(c, id, by)
				followArm(due, code, id, modelLater(c.Now, by))
			default:
				c, fired, code = impl.AdvanceTo(c, c.Now+r.next(12)-2)
			}
			expectStep(t, seed*1000+step, before, c, fired, code, due)
		}
	}
}

func followArm(due map[int]int, code, id, time int) {
	if code == impl.TimeOk {
		due[id] = time
	}
}

func expectStep(t *testing.T, step int, before, c impl.Clock, fired []int, code int, due map[int]int) {
	t.Helper()
	if code != impl.TimeOk && !sameValues([]any{c}, []any{before}) {
		t.Fatalf("%d: refused, but changed %v to %v", step, before, c)
	}
	for k, id := range fired {
		if due[id] > c.Now || k > 0 && due[fired[k-1]] > due[id] {
			t.Fatalf("%d: %v to %v: fired %v, due %v", step, before, c, fired, due)
		}
		delete(due, id)
	}
	if !impl.GoodClock(c) || len(c.Timers) != len(due) {
		t.Fatalf("%d: %v is not good, or is not all of %v", step, c, due)
	}
	for _, timer := range c.Timers {
		if due[timer.Id] != timer.At {
			t.Fatalf("%d: %v: timer %v was armed for %d", step, c, timer, due[timer.Id])
		}
		if code == impl.TimeOk && c.Now > before.Now && timer.At <= c.Now {
			t.Fatalf("%d: %v: timer %v is due and has not fired", step, c, timer)
		}
	}
}
