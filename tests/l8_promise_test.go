package tests

import (
	"runtime"
	"slices"
	"testing"

	"loop.example/g00145/impl"
)

// shift is the plain telling of promise 8: who came, who waits for a turn, who is at work, and how the others ended.
// Nothing is told there of pools but that so many may be at work at once, and that nobody is let in behind a fault.
type shift struct {
	most  int
	came  []int
	line  []int
	busy  map[int]int
	ends  map[int]int
	sent  map[int]int
	first int
}

func newShift(most int) *shift {
	return &shift{most: most, busy: map[int]int{}, ends: map[int]int{}, sent: map[int]int{}}
}

func (s *shift) add(t *testing.T, p impl.Pool, id int) (impl.Pool, int) {
	t.Helper()
	next, code := impl.AddWork(p, id)
	wants := impl.PoolOk
	switch {
	case s.first > 0:
		wants = impl.PoolStopped
	case slices.Contains(s.came, id):
		wants = impl.PoolTwice
	case len(s.came) == 40:
		wants = impl.PoolFull
	default:
		s.came, s.line = append(s.came, id), append(s.line, id)
	}
	if code != wants {
		t.Fatalf("%d into %+v: code %d, not %d", id, p, code, wants)
	}
	return next, code
}

func (s *shift) start(t *testing.T, p impl.Pool) (impl.Pool, int) {
	t.Helper()
	next, id, code := impl.StartNext(p)
	wants, wantsId := impl.PoolOk, 0
	switch {
	case len(s.line) == 0:
		wants = impl.PoolNone
	case len(s.busy) == s.most:
		wants = impl.PoolFull
	default:
		wantsId, s.line = s.line[0], s.line[1:]
		s.busy[wantsId] = 1
	}
	if code != wants || id != wantsId {
		t.Fatalf("next of %+v: %d, %d, not %d, %d", p, id, code, wantsId, wants)
	}
	return next, code
}

func (s *shift) end(t *testing.T, p impl.Pool, id, fault int) (impl.Pool, int) {
	t.Helper()
	next, left, code := impl.EndWork(p, id, fault)
	wants := impl.PoolOk
	var wantsLeft []int
	if s.busy[id] == 0 {
		wants = impl.PoolNone
	} else {
		delete(s.busy, id)
		s.ends[id] = fault
		if fault > 0 && s.first == 0 {
			s.first, wantsLeft, s.line = fault, s.line, nil
		}
	}
	for _, one := range wantsLeft {
		s.sent[one] = 1
	}
	if code != wants || !slices.Equal(left, wantsLeft) {
		t.Fatalf("the end of %d in %+v: %v, %d, not %v, %d", id, p, left, code, wantsLeft, wants)
	}
	return next, code
}

func (s *shift) workOf(id int) impl.Work {
	fault, ended := s.ends[id]
	switch {
	case s.busy[id] > 0:
		return impl.Work{Id: id, State: impl.WorkRuns}
	case s.sent[id] > 0:
		return impl.Work{Id: id, State: impl.WorkLeft}
	case ended && fault > 0:
		return impl.Work{Id: id, State: impl.WorkFailed, Fault: fault}
	case ended:
		return impl.Work{Id: id, State: impl.WorkDone}
	}
	return impl.Work{Id: id, State: impl.WorkWaits}
}

// expectPool: never more at once than told, the first fault stays, and each one's State is what happened to it.
func (s *shift) expectPool(t *testing.T, p impl.Pool) {
	t.Helper()
	want := impl.Pool{Most: s.most, Fault: s.first}
	var runs []int
	for _, id := range s.came {
		want.Works = append(want.Works, s.workOf(id))
		if s.busy[id] > 0 {
			runs = append(runs, id)
		}
	}
	if !impl.GoodPool(p) || !sameValues([]any{p}, []any{want}) {
		t.Fatalf("%+v, not %+v", p, want)
	}
	if got, ok := impl.RunningIn(p); !ok || !slices.Equal(got, runs) || len(got) > s.most {
		t.Fatalf("%+v: %v, %v, not %v", p, got, ok, runs)
	}
	settled, fault, ok := impl.SettledIn(p)
	if settled != (len(s.line)+len(s.busy) == 0) || fault != s.first || !ok {
		t.Fatalf("%+v: %v, %v, %v", p, settled, fault, ok)
	}
}

// settle lets all that are left go on to their ends, every third one of those behind a fault with a fault of its own.
func (s *shift) settle(t *testing.T, p impl.Pool) {
	t.Helper()
	for turn := 0; len(s.line)+len(s.busy) > 0; turn++ {
		p, _ = s.start(t, p)
		s.expectPool(t, p)
		runs, _ := impl.RunningIn(p)
		fault := 0
		if s.first > 0 && turn%3 == 0 {
			fault = 1 + turn
		}
		p, _ = s.end(t, p, runs[turn%len(runs)], fault)
		s.expectPool(t, p)
	}
	if settled, fault, ok := impl.SettledIn(p); !settled || fault != s.first || !ok {
		t.Fatalf("%+v: %v, %v, %v", p, settled, fault, ok)
	}
	if len(s.ends)+len(s.sent) != len(s.came) {
		t.Fatalf("of %d works %d ended and %d were left", len(s.came), len(s.ends), len(s.sent))
	}
}

// anyFault is none in most; mild says how seldom it is one.
func (r *turns) anyFault(mild int) int {
	if r.next(mild) > 0 {
		return 0
	}
	return []int{1, 2, 1000000, 1 + r.next(1000000)}[r.next(4)]
}

// Promise 8: never more at once than told; the first fault stays.
func TestPromise8(t *testing.T) {
	codes, full, faults, later := map[int]int{}, 0, 0, 0
	for seed := range 240 {
		r, most := turns(seed), []int{1, 2, 3, 7, 19, 20}[seed%6]
		mild := []int{4, 30, 100000}[seed/6%3]
		s, p, code := newShift(most), impl.Pool{Most: most}, impl.PoolOk
		for range 150 {
			switch draw := r.next(10); {
			case draw < 4:
				p, code = s.add(t, p, r.next(60)-5)
			case draw < 8:
				p, code = s.start(t, p)
			default:
				p, code = s.end(t, p, r.likelyRunning(s), r.anyFault(mild))
			}
			codes[code]++
			s.expectPool(t, p)
			if len(s.busy) == most && len(s.line) > 0 {
				full++
			}
		}
		s.settle(t, p)
		if s.first > 0 {
			faults++
		}
		for _, fault := range s.ends {
			if fault > 0 && fault != s.first {
				later++
			}
		}
	}
	expectMet(t, codes, 50, impl.PoolOk, impl.PoolFull, impl.PoolNone, impl.PoolStopped, impl.PoolTwice)
	if full < 1000 || faults < 50 || faults > 200 || later < 50 {
		t.Error("met too seldom:", full, faults, later)
	}
}

// likelyRunning is one that is at work in most, if any is.
func (r *turns) likelyRunning(s *shift) int {
	var runs []int
	for _, id := range s.came {
		if s.busy[id] > 0 {
			runs = append(runs, id)
		}
	}
	if len(runs) == 0 || r.next(4) == 0 {
		return r.next(60) - 5
	}
	return runs[r.next(len(runs))]
}

// Promise 8: 40 works go through a pool of any Most; as many as told are at work, and no more, as long as others wait.
func TestFortyThroughEachPool(t *testing.T) {
	for most := 1; most <= 20; most++ {
		s, p := newShift(most), impl.Pool{Most: most}
		for id := range 41 {
			p, _ = s.add(t, p, id)
		}
		for turn := range 40 {
			for code := impl.PoolOk; code == impl.PoolOk; {
				p, code = s.start(t, p)
				s.expectPool(t, p)
			}
			runs, _ := impl.RunningIn(p)
			if want := min(most, 40-turn); len(runs) != want {
				t.Fatalf("Most %d, turn %d: %v run", most, turn, runs)
			}
			p, _ = s.end(t, p, runs[turn*7%len(runs)], 0)
			s.expectPool(t, p)
		}
		if settled, fault, ok := impl.SettledIn(p); !settled || fault != 0 || !ok {
			t.Fatalf("%+v: %v, %v, %v", p, settled, fault, ok)
		}
	}
}

// Promise 8: the first fault of all comes at each place of 20 that run; then all others end, each with a fault of its own.
func TestTheFirstFaultStays(t *testing.T) {
	for first := range 20 {
		s, p := newShift(20), impl.Pool{Most: 20}
		for id := range 40 {
			p, _ = s.add(t, p, id)
		}
		for range 20 {
			p, _ = s.start(t, p)
		}
		for turn := range 20 {
			p, _ = s.end(t, p, (first+turn*3)%20, 1000000-turn)
			s.expectPool(t, p)
			if p.Fault != 1000000 || p.Works[first].Fault != 1000000 {
				t.Fatalf("the first fault is gone: %+v", p)
			}
		}
		if settled, fault, ok := impl.SettledIn(p); !settled || fault != 1000000 || !ok {
			t.Fatalf("%+v: %v, %v, %v", p, settled, fault, ok)
		}
	}
}

// What is answered must not hang on how goroutines run, nor on who else asks at the same time.
func TestPoolsAtOnce(t *testing.T) {
	before := runtime.GOMAXPROCS(0)
	defer runtime.GOMAXPROCS(before)
	p := pool(20, 0, running(countUp(0, 20)...), waiting(countUp(20, 20)...))
	want := pool(20, 9, running(countUp(0, 7)...), failed(9, 7), running(countUp(8, 12)...), leftOut(countUp(20, 20)...))
	for _, procs := range []int{1, 2, 8} {
		runtime.GOMAXPROCS(procs)
		answers := make(chan []any, 100)
		for range cap(answers) {
			go func() {
				next, left, code := impl.EndWork(p, 7, 9)
				answers <- []any{next, left, code}
			}()
		}
		for range cap(answers) {
			if got := <-answers; !sameValues(got, []any{want, countUp(20, 20), impl.PoolOk}) {
				t.Fatalf("%d at once: %+v", procs, got)
			}
		}
	}
}

// anyGoodPool has a fault in half, as many at work as told in many, and 40 works in many.
func (r *turns) anyGoodPool() impl.Pool {
	p := impl.Pool{Most: []int{1, 2 + r.next(4), 1 + r.next(20), 20}[r.next(4)]}
	many := []int{r.next(4), r.next(41), 39, 40}[r.next(4)]
	runs := 0
	states := []int{impl.WorkWaits, impl.WorkRuns, impl.WorkRuns, impl.WorkDone}
	if many > 0 && r.next(2) == 0 {
		p.Fault = []int{1, 1000000, 1 + r.next(1000000)}[r.next(3)]
		states = []int{impl.WorkLeft, impl.WorkRuns, impl.WorkRuns, impl.WorkDone, impl.WorkFailed}
	}
	start, tells := r.anyInt()%1000, r.next(many+1)
	for k := range many {
		w := impl.Work{Id: start + k*7%41*3, State: states[r.next(len(states))]}
		if w.State == impl.WorkRuns && runs == p.Most {
			w.State = impl.WorkDone
		}
		if p.Fault > 0 && k == min(tells, many-1) {
			w.State = impl.WorkFailed
		}
		switch w.State {
		case impl.WorkRuns:
			runs++
		case impl.WorkFailed:
			w.Fault = []int{p.Fault, 1 + r.next(1000000)}[r.next(2)]
			if k == min(tells, many-1) {
				w.Fault = p.Fault
			}
		}
		p.Works = append(p.Works, w)
	}
	return p
}

func TestManyGoodPools(t *testing.T) {
	r, codes := turns(88), map[int]int{}
	for range 700 {
		p := r.anyGoodPool()
		if !impl.GoodPool(p) {
			t.Fatalf("%+v is not good", p)
		}
		ids := []int{r.wideInt()}
		if len(p.Works) > 0 {
			ids = append(ids, p.Works[r.next(len(p.Works))].Id)
		}
		if runs := modelIdsAt(p, impl.WorkRuns); len(runs) > 0 {
			ids = append(ids, runs[r.next(len(runs))])
		}
		expectPoolModel(t, p, ids, []int{0, 1 + r.next(1000000)}, codes)
	}
	expectMet(t, codes, 50, impl.PoolOk, impl.PoolFull, impl.PoolNone, impl.PoolStopped, impl.PoolTwice)
}

// A good pool in which one number is another is held against the model: most of them are not good any more.
func TestPoolsThatAreNearlyGood(t *testing.T) {
	r, bad := turns(888), 0
	for range 4000 {
		p := r.anyGoodPool()
		switch draw := r.next(6); {
		case draw == 0 || len(p.Works) == 0:
			p.Most = []int{r.anyInt(), p.Most - 1, r.next(22)}[r.next(3)]
		case draw == 1:
			p.Fault = []int{r.anyInt(), 0, p.Fault + 1}[r.next(3)]
		case draw == 2:
			p.Works[r.next(len(p.Works))].Id = p.Works[r.next(len(p.Works))].Id
		case draw == 3:
			p.Works[r.next(len(p.Works))].State = r.anyInt()
		case draw == 4:
			p.Works[r.next(len(p.Works))].Fault = r.anyInt()
		default:
			p.Works = append(p.Works, impl.Work{Id: -9999, State: 1 + r.next(5)})
		}
		good := modelGoodPool(p)
		if got := impl.GoodPool(p); got != good {
			t.Fatalf("GoodPool of %+v: %v", p, got)
		}
		if !good {
			bad++
		}
	}
	if bad < 1000 || bad > 3600 {
		t.Error("met too seldom:", bad)
	}
}

// Promise 14: pools of any numbers.
func TestAnyPoolIsAnswered(t *testing.T) {
	r, codes := turns(814), map[int]int{}
	for range 700 {
		p := impl.Pool{Most: r.anyInt(), Fault: r.anyInt()}
		if r.next(2) == 0 {
			p = impl.Pool{Most: 1 + r.next(20)}
		}
		for range r.next(3) * r.next(45) / (1 + r.next(20)) {
			w := impl.Work{Id: r.wideInt(), State: r.anyInt(), Fault: r.anyInt()}
			if r.next(4) > 0 {
				w = impl.Work{Id: r.next(300), State: 1 + r.next(3)}
			}
			p.Works = append(p.Works, w)
		}
		expectPoolModel(t, p, []int{r.anyInt(), r.wideInt()}, []int{r.anyInt(), r.wideInt()}, codes)
	}
	expectMet(t, codes, 30, impl.PoolOk, impl.PoolBad, impl.PoolNone)
}
