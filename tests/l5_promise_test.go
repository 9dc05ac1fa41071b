package tests

import (
	"slices"
	"testing"

	"loop.example/g00145/impl"
)

// crew is the plain telling of the first part of promise 5: how many are begun and how many of them are done, and who waits for all.
type crew struct {
	begun, done int
	waiting     []int
}

func (c *crew) add(t *testing.T, g impl.Group, by int) (impl.Group, int) {
	t.Helper()
	next, woken, code := impl.AddTo(g, by)
	open := c.begun - c.done
	switch {
	case open+by < 0 || open+by > 1000000:
		if code != impl.SyncBelow || len(woken) > 0 || !sameValues([]any{g}, []any{next}) {
			t.Fatalf("%d to %+v: %+v, %v, %d", by, g, next, woken, code)
		}
		return next, code
	case by > 0:
		c.begun += by
	default:
		c.done -= by
	}
	if code != impl.SyncDone {
		t.Fatalf("%d to %+v: code %d", by, g, code)
	}
	// Whoever waits goes just when all that was begun is done: not ahead of it, and not later.
	var wants []int
	if c.begun == c.done {
		wants, c.waiting = c.waiting, nil
	}
	if !slices.Equal(woken, wants) {
		t.Fatalf("%d to %+v: %v are woken, not %v", by, g, woken, wants)
	}
	return next, code
}

func (c *crew) wait(t *testing.T, g impl.Group, task int) (impl.Group, int) {
	t.Helper()
	next, code := impl.WaitFor(g, task)
	wants := impl.SyncWaits
	switch {
	case slices.Contains(c.waiting, task):
		wants = impl.SyncBusy
	case c.begun == c.done:
		wants = impl.SyncDone
	default:
		c.waiting = append(c.waiting, task)
	}
	if code != wants {
		t.Fatalf("task %d waits for %+v: code %d, not %d", task, g, code, wants)
	}
	return next, code
}

func (c *crew) expectGroup(t *testing.T, g impl.Group) {
	t.Helper()
	if !impl.GoodGroup(g) || g.Count != c.begun-c.done || !slices.Equal(g.Waiting, c.waiting) {
		t.Fatalf("%+v, but %d are begun, %d done, and %v wait", g, c.begun, c.done, c.waiting)
	}
	if c.begun == c.done && len(g.Waiting) > 0 {
		t.Fatalf("all are done, but %v wait", g.Waiting)
	}
}

// Promise 5: who waits for all goes when all are done.
func TestPromise5OfGroups(t *testing.T) {
	codes, allWaited := map[int]int{}, 0
	for seed := range 100 {
		r, c := turns(seed), crew{}
		var g impl.Group
		code := 0
		for range 400 {
			switch draw := r.next(20); {
			case draw < 6:
				g, code = c.add(t, g, r.next(3))
			case draw < 11:
				g, code = c.add(t, g, -r.next(3))
			case draw < 12 && seed%4 == 0:
				g, code = c.add(t, g, []int{1000000, 999999 - g.Count, 1000000 - g.Count, -1000000, -g.Count}[r.next(5)])
			default:
				g, code = c.wait(t, g, r.next(30))
			}
			codes[code]++
			c.expectGroup(t, g)
			if len(g.Waiting) == 30 {
				allWaited++
			}
		}
	}
	expectMet(t, codes, 100, impl.SyncDone, impl.SyncWaits, impl.SyncBelow, impl.SyncBusy)
	if allWaited == 0 {
		t.Error("MaxTasks never waited")
	}
}

// house is the plain telling of the second part: who holds how much, and who waits, in the order in which they asked.
// Each holding is one of its own: a task may hold several.
type house struct {
	size    int
	held    []impl.Need
	waiting []impl.Need
}

func (h *house) used() int {
	used := 0
	for _, n := range h.held {
		used += n.Many
	}
	return used
}

// letIn moves from the line to those that hold, each one only if it is the first.
func (h *house) letIn() []int {
	var tasks []int
	for len(h.waiting) > 0 && h.used()+h.waiting[0].Many <= h.size {
		tasks = append(tasks, h.waiting[0].Task)
		h.held = append(h.held, h.waiting[0])
		h.waiting = h.waiting[1:]
	}
	return tasks
}

func (h *house) waits(task int) bool {
	return slices.ContainsFunc(h.waiting, func(n impl.Need) bool { return n.Task == task })
}

func (h *house) take(t *testing.T, r impl.Room, n impl.Need) (impl.Room, int) {
	t.Helper()
	next, code := impl.TakeRoom(r, n)
	wants := impl.SyncBusy
	switch {
	case n.Many > h.size:
		wants = impl.SyncBelow
	case !h.waits(n.Task):
		// Whoever asks stands at the end of the line, and goes at once if the line leads it in.
		h.waiting = append(slices.Clone(h.waiting), n)
		wants = impl.SyncWaits
		if len(h.letIn()) > 0 {
			wants = impl.SyncDone
		}
	}
	if code != wants {
		t.Fatalf("%+v takes of %+v: code %d, not %d", n, r, code, wants)
	}
	return next, code
}

// give gives back some of one holding, or more than all hold.
func (h *house) give(t *testing.T, r impl.Room, place, many int) (impl.Room, int) {
	t.Helper()
	next, woken, code := impl.GiveRoom(r, many)
	if many > h.used() {
		if code != impl.SyncBelow || len(woken) > 0 {
			t.Fatalf("%d given to %+v: %v, %d", many, r, woken, code)
		}
		return next, code
	}
	h.held[place].Many -= many
	h.held = slices.DeleteFunc(h.held, func(n impl.Need) bool { return n.Many == 0 })
	if wants := h.letIn(); code != impl.SyncDone || !slices.Equal(woken, wants) {
		t.Fatalf("%d given to %+v: %v are woken, not %v, code %d", many, r, woken, wants, code)
	}
	return next, code
}

func (h *house) leave(t *testing.T, r impl.Room, task int) (impl.Room, int) {
	t.Helper()
	next, woken, code := impl.LeaveRoom(r, task)
	wants := impl.SyncBelow
	if h.waits(task) {
		wants = impl.SyncDone
		h.waiting = slices.DeleteFunc(slices.Clone(h.waiting), func(n impl.Need) bool { return n.Task == task })
	}
	if told := h.letIn(); code != wants || !slices.Equal(woken, told) {
		t.Fatalf("task %d leaves %+v: %v are woken, not %v, code %d", task, r, woken, told, code)
	}
	return next, code
}

func (h *house) expectRoom(t *testing.T, r impl.Room) {
	t.Helper()
	if used := h.used(); used > h.size || r.Used != used || r.Size != h.size {
		t.Fatalf("%+v, but %d of %d are held", r, used, h.size)
	}
	if !impl.GoodRoom(r) || !slices.Equal(r.Waiting, h.waiting) {
		t.Fatalf("%+v, but %v wait", r, h.waiting)
	}
}

// Promise 5: room is never passed; whoever waits first is let in first.
func TestPromise5OfRooms(t *testing.T) {
	codes, allWaited := map[int]int{}, 0
	for seed := range 120 {
		r := turns(seed)
		size := []int{1, 2, 5, 12, 100, 1000}[seed%6]
		h, one, code := house{size: size}, impl.Room{Size: size}, 0
		// Now all move, now nearly all ask, so that the line comes to MaxTasks.
		for step := range 400 {
			draw := r.next(20)
			if step/100%2 == 1 && r.next(20) > 0 {
				draw = 0
			}
			switch {
			case draw < 10:
				one, code = h.take(t, one, need(r.next(30), 1+r.next(1+size/(1+r.next(5)))))
			case draw < 16 && len(h.held) > 0:
				place := r.next(len(h.held))
				one, code = h.give(t, one, place, min(r.next(h.held[place].Many+2), h.held[place].Many))
			case draw < 17 && h.used() < size:
				one, code = h.give(t, one, 0, h.used()+1)
			default:
				one, code = h.leave(t, one, r.next(30))
			}
			codes[code]++
			h.expectRoom(t, one)
			if len(one.Waiting) == 30 {
				allWaited++
			}
		}
	}
	expectMet(t, codes, 100, impl.SyncDone, impl.SyncWaits, impl.SyncBelow, impl.SyncBusy)
	if allWaited == 0 {
		t.Error("MaxTasks never waited")
	}
}

// tree is the plain telling of the third part: each scope knows those just below it.
type tree struct {
	deadline int
	why      int
	number   int
	below    []*tree
}

// end ends all from here down that go on, and tells them, in the order in which it comes to them.
func (n *tree) end(why int) []int {
	var told []int
	if n.why == impl.WhyNone {
		n.why = why
		told = append(told, n.number)
	}
	for _, b := range n.below {
		told = append(told, b.end(why)...)
	}
	return told
}

func (n *tree) expire(now int) []int {
	if n.why == impl.WhyNone && n.deadline <= now {
		return n.end(impl.WhyDeadline)
	}
	var told []int
	for _, b := range n.below {
		told = append(told, b.expire(now)...)
	}
	return told
}

// expectScopes: each scope is as its node is, and nobody goes on below one that has ended.
func expectScopes(t *testing.T, l []impl.Scope, nodes []*tree) {
	t.Helper()
	if !impl.GoodScopes(l) || len(l) != len(nodes) {
		t.Fatalf("%+v, but there are %d", l, len(nodes))
	}
	for k, s := range l {
		if s.Why != nodes[k].why || s.Deadline != nodes[k].deadline {
			t.Fatalf("%+v, but %d is %+v", l, k, *nodes[k])
		}
		if s.Up >= 0 && l[s.Up].Why != impl.WhyNone && s.Why == impl.WhyNone {
			t.Fatalf("%+v: %d goes on below %d", l, k, s.Up)
		}
	}
}

// grow begins a new scope below one that is there.
func grow(t *testing.T, l []impl.Scope, nodes []*tree, up, deadline int) ([]impl.Scope, []*tree) {
	t.Helper()
	next, number, code := impl.NewScope(l, up, deadline)
	if len(l) == 20 {
		if code != impl.SyncBad || len(next) > 0 {
			t.Fatalf("one more than MaxScopes: %+v, %d", next, code)
		}
		return l, nodes
	}
	if code != impl.SyncDone || number != len(l) {
		t.Fatalf("below %d of %+v: %d, code %d", up, l, number, code)
	}
	node := &tree{deadline: deadline, number: number}
	if up >= 0 {
		node.why = nodes[up].why
		nodes[up].below = append(nodes[up].below, node)
	}
	return next, append(nodes, node)
}

func cut(t *testing.T, l []impl.Scope, nodes []*tree, k int) []impl.Scope {
	t.Helper()
	next, ends, code := impl.CancelScope(l, k)
	if nodes[k].why != impl.WhyNone {
		if code != impl.SyncBusy || len(ends) > 0 || !slices.Equal(next, l) {
			t.Fatalf("%d of %+v: %+v, %v, %d", k, l, next, ends, code)
		}
		return next
	}
	told := nodes[k].end(impl.WhyCancelled)
	slices.Sort(told)
	if code != impl.SyncDone || !slices.Equal(ends, told) {
		t.Fatalf("%d of %+v: %v, not %v, code %d", k, l, ends, told, code)
	}
	return next
}

// Promise 5: what ends, ends all below it.
func TestPromise5OfScopes(t *testing.T) {
	ended := map[int]int{}
	for seed := range 400 {
		r, now := turns(seed), 0
		l, nodes := grow(t, nil, nil, -1, 60+r.next(60))
		for range 60 {
			switch draw := r.next(12); {
			case draw < 6:
				l, nodes = grow(t, l, nodes, r.next(len(l)), now+r.next(60))
			case draw < 7:
				l = cut(t, l, nodes, r.next(len(l)))
			default:
				now += r.next(6)
				next, ends, ok := impl.ExpireScopes(l, now)
				told := nodes[0].expire(now)
				slices.Sort(told)
				if !ok || !slices.Equal(ends, told) {
					t.Fatalf("%+v at %d: %v, not %v", l, now, ends, told)
				}
				l = next
			}
			expectScopes(t, l, nodes)
		}
		for _, s := range l {
			ended[s.Why]++
		}
	}
	expectMet(t, ended, 100, impl.WhyNone, impl.WhyCancelled, impl.WhyDeadline)
}
