package tests

import (
	"cmp"
	"math/big"
	"slices"

	"loop.example/g00145/impl"
)

// The chapter said a second time, plainly, for comparison over many clocks.

const modelForever = 9223372036854775807

func modelInOrder(a, b impl.Timer) int {
	return cmp.Or(cmp.Compare(a.At, b.At), cmp.Compare(a.Seq, b.Seq))
}

func modelGoodClock(c impl.Clock) bool {
	if c.Now < 0 || c.Seq < 0 || c.Seq > 1000000 || len(c.Timers) > 30 {
		return false
	}
	ids, seqs := map[int]int{}, map[int]int{}
	for _, timer := range c.Timers {
		ids[timer.Id]++
		seqs[timer.Seq]++
		if timer.At < c.Now || timer.Seq < 1 || timer.Seq > c.Seq {
			return false
		}
	}
	return len(ids) == len(c.Timers) && len(seqs) == len(c.Timers) && slices.IsSortedFunc(c.Timers, modelInOrder)
}

func modelLater(now, by int) int {
	sum := new(big.Int).Add(big.NewInt(int64(now)), big.NewInt(int64(by)))
	if sum.Cmp(big.NewInt(modelForever)) > 0 {
		return modelForever
	}
	if sum.Cmp(big.NewInt(int64(now))) < 0 {
		return now
	}
	return int(sum.Int64())
}

func cloneClock(c impl.Clock) impl.Clock {
	c.Timers = slices.Clone(c.Timers)
	return c
}

func modelPlace(c impl.Clock, id int) int {
	return slices.IndexFunc(c.Timers, func(timer impl.Timer) bool { return timer.Id == id })
}

func modelArm(c impl.Clock, id, by int) (impl.Clock, int) {
	c = cloneClock(c)
	switch {
	case !modelGoodClock(c) || c.Seq == 1000000:
		return impl.Clock{}, impl.TimeBad
	case modelPlace(c, id) >= 0:
		return c, impl.TimeTwice
	case len(c.Timers) == 30:
		return c, impl.TimeFull
	}
	c.Seq++
	c.Timers = append(c.Timers, impl.Timer{Id: id, At: modelLater(c.Now, by), Seq: c.Seq})
	slices.SortFunc(c.Timers, modelInOrder)
	return c, impl.TimeOk
}

func modelStop(c impl.Clock, id int) (impl.Clock, int) {
	c = cloneClock(c)
	if !modelGoodClock(c) {
		return impl.Clock{}, impl.TimeBad
	}
	place := modelPlace(c, id)
	if place < 0 {
		return c, impl.TimeNone
	}
	c.Timers = slices.Delete(c.Timers, place, place+1)
	return c, impl.TimeOk
}

func modelReset(c impl.Clock, id, by int) (impl.Clock, int) {
	if c.Seq == 1000000 {
		return impl.Clock{}, impl.TimeBad
	}
	stopped, code := modelStop(c, id)
	if code != impl.TimeOk {
		return stopped, code
	}
	return modelArm(stopped, id, by)
}

func modelNext(c impl.Clock) (int, bool) {
	if !modelGoodClock(c) || len(c.Timers) == 0 {
		return 0, false
	}
	return slices.MinFunc(c.Timers, modelInOrder).At, true
}

func modelAdvance(c impl.Clock, time int) (impl.Clock, []int, int) {
	c = cloneClock(c)
	switch {
	case !modelGoodClock(c):
		return impl.Clock{}, nil, impl.TimeBad
	case time < c.Now:
		return c, nil, impl.TimeBack
	}
	var fired []int
	for _, timer := range c.Timers {
		if timer.At <= time {
			fired = append(fired, timer.Id)
		}
	}
	c.Now = time
	c.Timers = slices.DeleteFunc(c.Timers, func(timer impl.Timer) bool { return timer.At <= time })
	return c, fired, impl.TimeOk
}
