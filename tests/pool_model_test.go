package tests

import (
	"slices"

	"loop.example/g00145/impl"
)

// The chapter said a second time, plainly, for comparison over many pools.

func modelIdsAt(p impl.Pool, state int) []int {
	var ids []int
	for _, w := range p.Works {
		if w.State == state {
			ids = append(ids, w.Id)
		}
	}
	return ids
}

func modelGoodWork(w impl.Work) bool {
	if w.State == 4 {
		return modelIsIn(1, w.Fault, 1000000)
	}
	return modelIsIn(1, w.State, 5) && w.Fault == 0
}

func modelGoodPool(p impl.Pool) bool {
	states, often, tell := map[int]int{}, map[int]int{}, 0
	for _, w := range p.Works {
		states[w.State]++
		often[w.Id]++
		if !modelGoodWork(w) {
			return false
		}
		if w.State == 4 && w.Fault == p.Fault {
			tell++
		}
	}
	switch {
	case !modelIsIn(1, p.Most, 20), !modelIsIn(0, p.Fault, 1000000), len(p.Works) > 40, len(often) != len(p.Works), states[2] > p.Most:
		return false
	case p.Fault == 0:
		return states[4] == 0 && states[5] == 0
	}
	return tell > 0 && states[1] == 0
}

func modelAddWork(p impl.Pool, id int) (impl.Pool, int) {
	switch {
	case !modelGoodPool(p):
		return impl.Pool{}, impl.PoolBad
	case p.Fault != 0:
		return p, impl.PoolStopped
	case slices.ContainsFunc(p.Works, func(w impl.Work) bool { return w.Id == id }):
		return p, impl.PoolTwice
	case len(p.Works) >= 40:
		return p, impl.PoolFull
	}
	p.Works = slices.Concat(p.Works, []impl.Work{{Id: id, State: 1}})
	return p, impl.PoolOk
}

// modelSet is the pool in which the work at that place is this one.
func modelSet(p impl.Pool, place int, w impl.Work) impl.Pool {
	p.Works = slices.Clone(p.Works)
	p.Works[place] = w
	return p
}

func modelStartNext(p impl.Pool) (impl.Pool, int, int) {
	switch {
	case !modelGoodPool(p):
		return impl.Pool{}, 0, impl.PoolBad
	case len(modelIdsAt(p, 1)) == 0:
		return p, 0, impl.PoolNone
	case len(modelIdsAt(p, 2)) >= p.Most:
		return p, 0, impl.PoolFull
	}
	place := slices.IndexFunc(p.Works, func(w impl.Work) bool { return w.State == 1 })
	id := p.Works[place].Id
	return modelSet(p, place, impl.Work{Id: id, State: 2}), id, impl.PoolOk
}

func modelEndWork(p impl.Pool, id, fault int) (impl.Pool, []int, int) {
	if !modelGoodPool(p) || !modelIsIn(0, fault, 1000000) {
		return impl.Pool{}, nil, impl.PoolBad
	}
	place := slices.Index(p.Works, impl.Work{Id: id, State: 2})
	switch {
	case place < 0:
		return p, nil, impl.PoolNone
	case fault == 0:
		return modelSet(p, place, impl.Work{Id: id, State: 3}), nil, impl.PoolOk
	}
	next := modelSet(p, place, impl.Work{Id: id, State: 4, Fault: fault})
	if p.Fault != 0 {
		return next, nil, impl.PoolOk
	}
	left := modelIdsAt(next, 1)
	for k, w := range next.Works {
		if w.State == 1 {
			next.Works[k].State = 5
		}
	}
	next.Fault = fault
	return next, left, impl.PoolOk
}

func modelRunningIn(p impl.Pool) ([]int, bool) {
	if !modelGoodPool(p) {
		return nil, false
	}
	return modelIdsAt(p, 2), true
}

func modelSettledIn(p impl.Pool) (bool, int, bool) {
	if !modelGoodPool(p) {
		return false, 0, false
	}
	return len(modelIdsAt(p, 1))+len(modelIdsAt(p, 2)) == 0, p.Fault, true
}
