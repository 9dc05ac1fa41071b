package tests

import (
	"math"
	"runtime"
	"slices"
	"testing"

	"loop.example/g00145/impl"
)

// listener is one of those in promise 9: all that was said while it was there, what of it it heard, and how often it lost one.
// What it has not heard yet is the end of what was said, from the place next on: all it has lost lies ahead of it.
type listener struct {
	size  int
	drops bool
	said  []int
	heard []int
	next  int
	lost  int
}

func (l *listener) unheard() []int { return l.said[l.next:] }

func (l *listener) crowded() bool { return len(l.unheard()) == l.size }

// audience is the plain telling of promise 9. Nothing is told there of topics but who listens, and what was said to them.
// Each value is the number of its saying, so that one value is not taken for another.
type audience struct {
	there map[int]*listener
	said  int
}

func newAudience() *audience { return &audience{there: map[int]*listener{}} }

func (a *audience) ids() []int {
	var ids []int
	for id := range a.there {
		ids = append(ids, id)
	}
	slices.Sort(ids)
	return ids
}

func (a *audience) crowdedIds(drops bool) []int {
	var ids []int
	for _, id := range a.ids() {
		if l := a.there[id]; l.drops == drops && l.crowded() {
			ids = append(ids, id)
		}
	}
	return ids
}

func (a *audience) join(t *testing.T, x impl.Topic, id, size int, drops bool) (impl.Topic, int) {
	t.Helper()
	next, code := impl.Subscribe(x, id, size, drops)
	wants := impl.TopicOk
	switch {
	case a.there[id] != nil:
		wants = impl.TopicTwice
	case len(a.there) == 10:
		wants = impl.TopicFull
	default:
		a.there[id] = &listener{size: size, drops: drops}
	}
	if code != wants {
		t.Fatalf("%d to %+v: code %d, not %d", id, x, code, wants)
	}
	return next, code
}

func (a *audience) leave(t *testing.T, x impl.Topic, id int) (impl.Topic, int) {
	t.Helper()
	next, unheard, code := impl.Unsubscribe(x, id)
	wants := impl.TopicNone
	var wantsUnheard []int
	if l := a.there[id]; l != nil {
		wants, wantsUnheard = impl.TopicOk, l.unheard()
		expectAllTold(t, id, *l, unheard, l.lost)
		delete(a.there, id)
	}
	if code != wants || !slices.Equal(unheard, wantsUnheard) {
		t.Fatalf("%d out of %+v: %v, %d, not %v, %d", id, x, unheard, code, wantsUnheard, wants)
	}
	return next, code
}

func (a *audience) say(t *testing.T, x impl.Topic) (impl.Topic, int) {
	t.Helper()
	next, told, code := impl.Publish(x, a.said)
	wants, wantsTold := impl.TopicFull, a.crowdedIds(false)
	if len(wantsTold) == 0 {
		wants, wantsTold = impl.TopicOk, a.crowdedIds(true)
		for _, id := range wantsTold {
			a.there[id].lost++
			a.there[id].next++
		}
		for _, l := range a.there {
			l.said = append(l.said, a.said)
		}
		a.said++
	}
	if code != wants || !slices.Equal(told, wantsTold) {
		t.Fatalf("said to %+v: %v, %d, not %v, %d", x, told, code, wantsTold, wants)
	}
	return next, code
}

func (a *audience) hear(t *testing.T, x impl.Topic, id int) (impl.Topic, int) {
	t.Helper()
	next, value, code := impl.HearNext(x, id)
	wants, wantsValue := impl.TopicOk, 0
	switch l := a.there[id]; {
	case l == nil:
		wants = impl.TopicNone
	case len(l.unheard()) == 0:
		wants = impl.TopicFull
	default:
		wantsValue = l.said[l.next]
		l.next++
		l.heard = append(l.heard, value)
	}
	if code != wants || value != wantsValue {
		t.Fatalf("%d hears of %+v: %d, %d, not %d, %d", id, x, value, code, wantsValue, wants)
	}
	return next, code
}

// expectAllTold: it hears in order, and what was said while it was there, and it has not heard nor will hear, it dropped.
func expectAllTold(t *testing.T, id int, l listener, queue []int, dropped int) {
	t.Helper()
	all := slices.Concat(l.heard, queue)
	for k := 1; k < len(all); k++ {
		if all[k-1] >= all[k] {
			t.Fatalf("%d does not hear in order: %v", id, all)
		}
	}
	missing := 0
	for _, value := range l.said {
		if _, there := slices.BinarySearch(all, value); !there {
			missing++
		}
	}
	if missing != dropped || len(all)+missing != len(l.said) {
		t.Fatalf("%d: of %d that were said it heard %d and has %d, %d are missing, and it dropped %d", id, len(l.said), len(l.heard), len(queue), missing, dropped)
	}
}

func (a *audience) expectTopic(t *testing.T, x impl.Topic) {
	t.Helper()
	want := impl.Topic{Said: a.said}
	for _, id := range a.ids() {
		l := a.there[id]
		want.Subs = append(want.Subs, impl.Sub{Id: id, Cap: l.size, Drops: l.drops, Dropped: l.lost, Queue: l.unheard()})
	}
	if !impl.GoodTopic(x) || !sameValues([]any{x}, []any{want}) {
		t.Fatalf("%+v, not %+v", x, want)
	}
	if full, ok := impl.WaitingOn(x); !ok || !slices.Equal(full, a.crowdedIds(false)) {
		t.Fatalf("%+v: %v, %v", x, full, ok)
	}
}

func (a *audience) expectPromise(t *testing.T, x impl.Topic) {
	t.Helper()
	for _, s := range x.Subs {
		expectAllTold(t, s.Id, *a.there[s.Id], s.Queue, s.Dropped)
	}
}

// hearOut lets everybody hear all that is left, each in its turn.
func (a *audience) hearOut(t *testing.T, x impl.Topic) {
	t.Helper()
	for _, id := range a.ids() {
		for code := impl.TopicOk; code == impl.TopicOk; {
			x, code = a.hear(t, x, id)
		}
		a.expectTopic(t, x)
		l := a.there[id]
		if !l.drops && !slices.Equal(l.heard, l.said) || len(l.heard)+l.lost != len(l.said) {
			t.Fatalf("%d heard %v of %v, and dropped %d", id, l.heard, l.said, l.lost)
		}
	}
	a.expectPromise(t, x)
}

// anyId is one that is there in most, if any is.
func (a *audience) anyId(r *turns) int {
	ids := a.ids()
	if len(ids) == 0 || r.next(6) == 0 {
		return r.next(16) - 3
	}
	return ids[r.next(len(ids))]
}

// Promise 9: each that hears hears in order; what it has not, it dropped.
func TestPromise9(t *testing.T) {
	codes, blocked, losses, kept := map[int]int{}, 0, 0, 0
	for seed := range 240 {
		r, a, x, code := turns(seed), newAudience(), impl.Topic{}, impl.TopicOk
		sizes := [][]int{{1}, {1, 2, 3}, {5, 20}, {19, 20}}[seed%4]
		kinds := seed / 4 % 4
		for step := range 400 {
			switch draw := r.next(100); {
			case draw < 6 || step < 3:
				x, code = a.join(t, x, r.next(16)-3, sizes[r.next(len(sizes))], kinds > 0 && r.next(4) <= kinds)
			case draw < 9:
				x, code = a.leave(t, x, a.anyId(&r))
			case draw < 40:
				x, code = a.say(t, x)
				if code == impl.TopicFull {
					blocked++
				}
			default:
				x, code = a.hear(t, x, a.anyId(&r))
			}
			codes[code]++
			a.expectTopic(t, x)
			if step%20 == 0 {
				a.expectPromise(t, x)
			}
		}
		a.hearOut(t, x)
		for _, l := range a.there {
			losses += l.lost
			if !l.drops {
				kept += len(l.heard)
			}
		}
	}
	expectMet(t, codes, 500, impl.TopicOk, impl.TopicTwice, impl.TopicFull, impl.TopicNone)
	if blocked < 1000 || losses < 1000 || kept < 1000 {
		t.Error("met too seldom:", blocked, losses, kept)
	}
}

// Promise 9: of each Cap, one that drops has the last Cap that were said, and one that keeps has all up to where it waits.
func TestEachCapIsFilledAndPassed(t *testing.T) {
	for size := 1; size <= 20; size++ {
		for more := range 2*size + 2 {
			a, x := newAudience(), impl.Topic{}
			x, _ = a.join(t, x, 7, size, true)
			for range size + more {
				x, _ = a.say(t, x)
				a.expectTopic(t, x)
			}
			if s := x.Subs[0]; s.Dropped != more || !slices.Equal(s.Queue, countUp(more, size)) {
				t.Fatalf("Cap %d and %d more: %+v", size, more, s)
			}
			x, _ = a.join(t, x, 3, size, false)
			for range size {
				x, _ = a.say(t, x)
			}
			before := x
			x, code := a.say(t, x)
			if code != impl.TopicFull || !sameValues([]any{x}, []any{before}) {
				t.Fatalf("Cap %d: code %d, %+v, not %+v", size, code, x, before)
			}
			x, _ = a.hear(t, x, 3)
			x, code = a.say(t, x)
			if code != impl.TopicOk {
				t.Fatalf("Cap %d: code %d", size, code)
			}
			a.expectPromise(t, x)
			a.hearOut(t, x)
		}
	}
}

// Promise 9: what is said while one is not there it neither hears nor drops, also where it was there before.
func TestOneThatLeavesAndComesAgain(t *testing.T) {
	for _, drops := range []bool{false, true} {
		a, x := newAudience(), impl.Topic{}
		x, _ = a.join(t, x, 1, 20, true)
		for turn := range 12 {
			x, _ = a.join(t, x, 5, 4, drops)
			for range 3 {
				x, _ = a.say(t, x)
			}
			x, _ = a.hear(t, x, 5)
			x, _ = a.say(t, x)
			if want := countUp(6*turn+1, 3); !slices.Equal(x.Subs[1].Queue, want) || x.Subs[1].Dropped != 0 {
				t.Fatalf("%+v, not %v", x.Subs[1], want)
			}
			x, _ = a.leave(t, x, 5)
			x, _ = a.say(t, x)
			x, _ = a.say(t, x)
			a.expectTopic(t, x)
			a.expectPromise(t, x)
		}
		a.hearOut(t, x)
	}
}

// Promise 9: 10 hear the same, each at its own pace.
func TestTenAtTheirOwnPace(t *testing.T) {
	for _, drops := range []int{0, 1, 2} {
		a, x := newAudience(), impl.Topic{}
		for k := range 10 {
			x, _ = a.join(t, x, (k*7)%10, 1+2*k, drops == 1 || drops == 2 && k%2 == 0)
		}
		for step := range 600 {
			x, _ = a.say(t, x)
			for id := range 10 {
				if step%(id+1) == 0 {
					x, _ = a.hear(t, x, id)
				}
			}
			a.expectTopic(t, x)
		}
		a.expectPromise(t, x)
		a.hearOut(t, x)
	}
}

// A topic that has said all says no more, whoever hears; what was said is still heard.
func TestTheEndOfWhatIsSaid(t *testing.T) {
	x := topic(999998, keeping(1, 5), dropping(2, 1, 999998, 3))
	for said := 999999; said <= 1000000; said++ {
		next, lost, code := impl.Publish(x, said)
		if code != impl.TopicOk || next.Said != said || !slices.Equal(lost, []int{2}) {
			t.Fatalf("%+v, %v, %d", next, lost, code)
		}
		x = next
	}
	if next, lost, code := impl.Publish(x, 7); code != impl.TopicBad || len(lost) > 0 || next.Said != 0 || len(next.Subs) > 0 {
		t.Fatalf("%+v, %v, %d", next, lost, code)
	}
	if want := topic(1000000, keeping(1, 5, 999999, 1000000), dropping(2, 1, 1000000, 1000000)); !sameValues([]any{x}, []any{want}) {
		t.Fatalf("%+v, not %+v", x, want)
	}
	for _, c := range []struct{ id, value, code int }{{1, 999999, 0}, {2, 1000000, 0}, {2, 0, impl.TopicFull}, {1, 1000000, 0}, {1, 0, impl.TopicFull}} {
		next, value, code := impl.HearNext(x, c.id)
		if value != c.value || code != c.code {
			t.Fatalf("%d hears %d, %d", c.id, value, code)
		}
		x = next
	}
}

// What is answered must not hang on how goroutines run, nor on who else asks at the same time.
func TestTopicsAtOnce(t *testing.T) {
	before := runtime.GOMAXPROCS(0)
	defer runtime.GOMAXPROCS(before)
	x, want := topic(3), topic(4)
	var lost []int
	for id := range 10 {
		x.Subs = append(x.Subs, dropping(id, 20, 0, countUp(id, 20)...))
		want.Subs = append(want.Subs, dropping(id, 20, 1, append(countUp(id+1, 19), -1)...))
		lost = append(lost, id)
	}
	for _, procs := range []int{1, 2, 8} {
		runtime.GOMAXPROCS(procs)
		answers := make(chan []any, 100)
		for range cap(answers) {
			go func() {
				next, ids, code := impl.Publish(x, -1)
				answers <- []any{next, ids, code}
			}()
		}
		for range cap(answers) {
			if got := <-answers; !sameValues(got, []any{want, lost, impl.TopicOk}) {
				t.Fatalf("%d at once: %+v", procs, got)
			}
		}
	}
}

// No call leaves a goroutine behind that goes on.
func TestTopicsLeaveNobodyBehind(t *testing.T) {
	before := runtime.NumGoroutine()
	x := topic(3, keeping(1, 1, 7), dropping(2, 1, 0, 7), keeping(3, 2))
	y := topic(3, dropping(2, 1, 0, 7), keeping(3, 2))
	for range 200 {
		impl.Publish(x, 5)
		impl.Publish(y, 5)
		impl.HearNext(x, 1)
		impl.HearNext(x, 3)
		impl.Unsubscribe(x, 2)
		impl.Subscribe(x, 9, 2, true)
		impl.WaitingOn(x)
	}
	if after := runtime.NumGoroutine(); after > before {
		t.Error("left behind:", after-before)
	}
}

// anyGoodTopic has 10 Subs in many, and full queues in many.
func (r *turns) anyGoodTopic(keeps int) impl.Topic {
	x := impl.Topic{Said: []int{0, r.next(1000001), 999999, 1000000}[r.next(4)]}
	many := []int{r.next(3), r.next(11), 9, 10}[r.next(4)]
	id, step := []int{math.MinInt, r.wideInt() / 2, -5}[r.next(3)], 1+r.next(4)*r.next(1000)
	for range many {
		id += 1 + r.next(step)
		s := impl.Sub{Id: id, Cap: []int{1, 2 + r.next(3), 1 + r.next(20), 20}[r.next(4)], Drops: r.next(10) >= keeps}
		s.Queue = r.anyValues([]int{0, r.next(s.Cap + 1), s.Cap}[r.next(3)])
		if s.Drops {
			s.Dropped = []int{0, 1, 999999, 1000000, r.next(1000001)}[r.next(5)]
		}
		x.Subs = append(x.Subs, s)
	}
	return x
}

func TestManyGoodTopics(t *testing.T) {
	r, codes := turns(99), map[int]int{}
	for k := range 700 {
		x := r.anyGoodTopic([]int{0, 1, 5, 10}[k%4])
		if !impl.GoodTopic(x) {
			t.Fatalf("%+v is not good", x)
		}
		ids := []int{r.wideInt()}
		if len(x.Subs) > 0 {
			near := x.Subs[r.next(len(x.Subs))].Id
			ids = append(ids, near, near+1)
		}
		expectTopicModel(t, x, ids, []int{1 + r.next(20), r.anyInt()}, []int{r.wideInt()}, codes)
	}
	expectMet(t, codes, 50, impl.TopicOk, impl.TopicBad, impl.TopicTwice, impl.TopicFull, impl.TopicNone)
}

// A good topic in which one number is another is held against the model: most of them are not good any more.
func TestTopicsThatAreNearlyGood(t *testing.T) {
	r, bad := turns(999), 0
	for range 6000 {
		x := r.anyGoodTopic(5)
		if draw := r.next(7); draw == 0 || len(x.Subs) == 0 {
			x.Said = []int{r.anyInt(), -1, 1000001}[r.next(3)]
		} else {
			s := &x.Subs[r.next(len(x.Subs))]
			switch draw {
			case 1:
				s.Id = x.Subs[r.next(len(x.Subs))].Id + r.next(3) - 1
			case 2:
				s.Cap = []int{r.anyInt(), s.Cap - 1, 21}[r.next(3)]
			case 3:
				s.Drops = !s.Drops
			case 4:
				s.Dropped = r.anyInt()
			case 5:
				s.Queue = r.anyValues(s.Cap + r.next(2))
			default:
				x.Subs = append(x.Subs, keeping(x.Subs[len(x.Subs)-1].Id+r.next(3), 1))
			}
		}
		good := modelGoodTopic(x)
		if got := impl.GoodTopic(x); got != good {
			t.Fatalf("GoodTopic of %+v: %v", x, got)
		}
		if !good {
			bad++
		}
	}
	if bad < 1500 || bad > 5000 {
		t.Error("met too seldom:", bad)
	}
}

// Promise 14: topics of any numbers.
func TestAnyTopicIsAnswered(t *testing.T) {
	r, codes := turns(914), map[int]int{}
	for range 700 {
		x := impl.Topic{Said: r.anyInt()}
		for range r.next(3) * r.next(13) / (1 + r.next(6)) {
			s := impl.Sub{Id: r.wideInt(), Cap: r.anyInt(), Drops: r.next(2) == 0, Dropped: r.anyInt(), Queue: r.anyValues(r.next(23))}
			if r.next(4) > 0 {
				s = impl.Sub{Id: 5*len(x.Subs) + r.next(5), Cap: 1 + r.next(3), Queue: r.anyValues(r.next(2))}
			}
			x.Subs = append(x.Subs, s)
		}
		expectTopicModel(t, x, []int{r.anyInt(), r.wideInt()}, []int{r.anyInt(), r.wideInt()}, []int{r.anyInt(), r.wideInt()}, codes)
	}
	expectMet(t, codes, 30, impl.TopicOk, impl.TopicBad, impl.TopicFull, impl.TopicNone)
}
