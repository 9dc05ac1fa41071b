package tests

import (
	"slices"

	"loop.example/g00145/impl"
)

// The chapter said a second time, plainly, for comparison over many groups, rooms and scopes.

func modelIsTask(task int) bool { return 0 <= task && task <= 29 }

func modelGoodTasks(tasks []int) bool {
	sorted := slices.Sorted(slices.Values(tasks))
	return len(slices.Compact(sorted)) == len(tasks) && len(tasks) <= 30 && !slices.ContainsFunc(tasks, func(task int) bool { return !modelIsTask(task) })
}

func modelGoodGroup(g impl.Group) bool {
	switch {
	case g.Count < 0, g.Count > 1000000:
		return false
	case g.Count == 0:
		return len(g.Waiting) == 0
	}
	return modelGoodTasks(g.Waiting)
}

func modelAddTo(g impl.Group, by int) (impl.Group, []int, int) {
	switch {
	case !modelGoodGroup(g), by < -1000000, by > 1000000:
		return impl.Group{}, nil, impl.SyncBad
	case by < -g.Count, by > 1000000-g.Count:
		return g, nil, impl.SyncBelow
	case by == -g.Count:
		return impl.Group{}, g.Waiting, impl.SyncDone
	}
	return impl.Group{Count: g.Count + by, Waiting: g.Waiting}, nil, impl.SyncDone
}

func modelWaitFor(g impl.Group, task int) (impl.Group, int) {
	switch {
	case !modelGoodGroup(g), !modelIsTask(task):
		return impl.Group{}, impl.SyncBad
	case slices.Contains(g.Waiting, task):
		return g, impl.SyncBusy
	case g.Count == 0:
		return g, impl.SyncDone
	}
	return impl.Group{Count: g.Count, Waiting: slices.Concat(g.Waiting, []int{task})}, impl.SyncWaits
}

func modelTasks(waiting []impl.Need) []int {
	var tasks []int
	for _, n := range waiting {
		tasks = append(tasks, n.Task)
	}
	return tasks
}

func modelGoodRoom(r impl.Room) bool {
	switch {
	case r.Size < 1, r.Size > 1000, r.Used < 0, r.Used > r.Size:
		return false
	case !modelGoodTasks(modelTasks(r.Waiting)):
		return false
	case slices.ContainsFunc(r.Waiting, func(n impl.Need) bool { return n.Many < 1 || n.Many > r.Size }):
		return false
	}
	return len(r.Waiting) == 0 || r.Used+r.Waiting[0].Many > r.Size
}

func modelTakeRoom(r impl.Room, n impl.Need) (impl.Room, int) {
	switch {
	case !modelGoodRoom(r), !modelIsTask(n.Task), n.Many < 1, n.Many > 1000000:
		return impl.Room{}, impl.SyncBad
	case n.Many > r.Size:
		return r, impl.SyncBelow
	case slices.Contains(modelTasks(r.Waiting), n.Task), len(r.Waiting) == 30:
		return r, impl.SyncBusy
	case len(r.Waiting) > 0, r.Used+n.Many > r.Size:
		return impl.Room{Size: r.Size, Used: r.Used, Waiting: slices.Concat(r.Waiting, []impl.Need{n})}, impl.SyncWaits
	}
	return impl.Room{Size: r.Size, Used: r.Used + n.Many}, impl.SyncDone
}

// modelLetIn lets in as many from the front as have room all together, whatever the rest would need.
func modelLetIn(r impl.Room) (impl.Room, []int) {
	together := r.Used
	many := slices.IndexFunc(r.Waiting, func(n impl.Need) bool {
		if together+n.Many > r.Size {
			return true
		}
		together += n.Many
		return false
	})
	if many < 0 {
		many = len(r.Waiting)
	}
	return impl.Room{Size: r.Size, Used: together, Waiting: r.Waiting[many:]}, modelTasks(r.Waiting[:many])
}

func modelGiveRoom(r impl.Room, many int) (impl.Room, []int, int) {
	switch {
	case !modelGoodRoom(r), many < 0, many > r.Size:
		return impl.Room{}, nil, impl.SyncBad
	case many > r.Used:
		return r, nil, impl.SyncBelow
	}
	next, woken := modelLetIn(impl.Room{Size: r.Size, Used: r.Used - many, Waiting: r.Waiting})
	return next, woken, impl.SyncDone
}

func modelLeaveRoom(r impl.Room, task int) (impl.Room, []int, int) {
	others := slices.DeleteFunc(slices.Clone(r.Waiting), func(n impl.Need) bool { return n.Task == task })
	switch {
	case !modelGoodRoom(r), !modelIsTask(task):
		return impl.Room{}, nil, impl.SyncBad
	case len(others) == len(r.Waiting):
		return r, nil, impl.SyncBelow
	}
	next, woken := modelLetIn(impl.Room{Size: r.Size, Used: r.Used, Waiting: others})
	return next, woken, impl.SyncDone
}

func modelGoodScopes(l []impl.Scope) bool {
	if len(l) > 20 {
		return false
	}
	for k, s := range l {
		switch {
		case s.Deadline < 0:
			return false
		case s.Why != impl.WhyNone && s.Why != impl.WhyCancelled && s.Why != impl.WhyDeadline:
			return false
		case k == 0 && s.Up != -1, k > 0 && s.Up < 0, k > 0 && s.Up >= k:
			return false
		case k > 0 && l[s.Up].Why != impl.WhyNone && s.Why == impl.WhyNone:
			return false
		}
	}
	return true
}

// modelAbove are the scopes from this one up to the first, itself among them.
func modelAbove(l []impl.Scope, k int) []int {
	var numbers []int
	for ; k >= 0; k = l[k].Up {
		numbers = append(numbers, k)
	}
	return numbers
}

// modelEnd ends each one above which, or at which, there is one that was WhyNone and is to end.
func modelEnd(l []impl.Scope, why int, ends func(k int) bool) ([]impl.Scope, []int) {
	next := slices.Clone(l)
	var numbers []int
	for k := range l {
		struck := func(above int) bool { return l[above].Why == impl.WhyNone && ends(above) }
		if l[k].Why == impl.WhyNone && slices.ContainsFunc(modelAbove(l, k), struck) {
			next[k].Why = why
			numbers = append(numbers, k)
		}
	}
	return next, numbers
}

func modelNewScope(l []impl.Scope, up, deadline int) ([]impl.Scope, int, int) {
	first := len(l) == 0 && up == -1
	below := 0 <= up && up < len(l)
	switch {
	case !modelGoodScopes(l), len(l) == 20, deadline < 0, !first && !below:
		return nil, 0, impl.SyncBad
	case first:
		return []impl.Scope{{Up: -1, Deadline: deadline}}, 0, impl.SyncDone
	}
	return slices.Concat(l, []impl.Scope{{Up: up, Deadline: deadline, Why: l[up].Why}}), len(l), impl.SyncDone
}

func modelCancelScope(l []impl.Scope, k int) ([]impl.Scope, []int, int) {
	switch {
	case !modelGoodScopes(l), k < 0, k >= len(l):
		return nil, nil, impl.SyncBad
	case l[k].Why != impl.WhyNone:
		return l, nil, impl.SyncBusy
	}
	next, numbers := modelEnd(l, impl.WhyCancelled, func(above int) bool { return above == k })
	return next, numbers, impl.SyncDone
}

func modelExpireScopes(l []impl.Scope, now int) ([]impl.Scope, []int, bool) {
	if !modelGoodScopes(l) {
		return nil, nil, false
	}
	next, numbers := modelEnd(l, impl.WhyDeadline, func(above int) bool { return l[above].Deadline <= now })
	return next, numbers, true
}
