package tests

import (
	"slices"
	"testing"

	"loop.example/g00145/impl"
)

// ask is one that waits, with all of its cases.
type ask struct {
	task  int
	cases []impl.Case
}

// book is the plain telling of promise 4: those that wait, in the order in which they began to, and what the channels hold.
// The hub is what these make of it, so nobody can be left at a channel without standing at all of its others.
type book struct {
	chans []impl.Chan
	asks  []ask
}

func (b *book) hub() impl.Hub {
	h := cloneHub(impl.Hub{Chans: b.chans})
	for _, a := range b.asks {
		for number, c := range a.cases {
			switch {
			case c.Chan < 0:
			case c.Send:
				h.Chans[c.Chan].Senders = append(h.Chans[c.Chan].Senders, by(a.task, number, c.Value))
			default:
				h.Chans[c.Chan].Receivers = append(h.Chans[c.Chan].Receivers, by(a.task, number, 0))
			}
		}
	}
	return h
}

// first is whoever waits longest at that side of the channel, with the number of its case.
func (b *book) first(channel int, sends bool) (ask, int, bool) {
	for _, a := range b.asks {
		for number, c := range a.cases {
			if c.Chan == channel && c.Send == sends {
				return a, number, true
			}
		}
	}
	return ask{}, 0, false
}

func (b *book) forget(task int) {
	b.asks = slices.DeleteFunc(b.asks, func(a ask) bool { return a.task == task })
}

func (b *book) waits(task int) bool {
	return slices.ContainsFunc(b.asks, func(a ask) bool { return a.task == task && len(numbersIn(a.cases)) > 0 })
}

// numbersIn are the numbers of the cases that have a channel.
func numbersIn(l []impl.Case) []int {
	var numbers []int
	for number, c := range l {
		if c.Chan >= 0 {
			numbers = append(numbers, number)
		}
	}
	return numbers
}

func (b *book) ready(l []impl.Case) []int {
	return slices.DeleteFunc(numbersIn(l), func(number int) bool {
		c := l[number]
		at := b.chans[c.Chan]
		_, _, met := b.first(c.Chan, !c.Send)
		return !at.Closed && !met && (c.Send && len(at.Buffer) == at.Cap || !c.Send && len(at.Buffer) == 0)
	})
}

// full tells whether the task would be one too many at some channel.
func (b *book) full(a ask) bool {
	with := book{chans: b.chans, asks: append(slices.Clone(b.asks), a)}
	return slices.ContainsFunc(with.hub().Chans, func(c impl.Chan) bool { return len(c.Senders) > 40 || len(c.Receivers) > 40 })
}

func (b *book) choose(a ask, draw int, orElse bool) (int, []impl.Woken, int) {
	ready := b.ready(a.cases)
	switch {
	case b.waits(a.task):
		return -1, nil, impl.HubTwice
	case len(ready) == 0 && orElse:
		return -1, nil, impl.HubElse
	case len(ready) == 0 && b.full(a):
		return -1, nil, impl.HubFull
	case len(ready) == 0:
		b.asks = append(b.asks, a)
		return -1, nil, impl.HubWaits
	}
	number := ready[draw%len(ready)]
	c := a.cases[number]
	if !c.Send {
		return number, b.receive(a.task, number, &b.chans[c.Chan], c.Chan), impl.HubDone
	}
	if b.chans[c.Chan].Closed {
		return -1, nil, impl.HubClosed
	}
	return number, b.send(&b.chans[c.Chan], c), impl.HubDone
}

func (b *book) send(at *impl.Chan, c impl.Case) []impl.Woken {
	other, number, met := b.first(c.Chan, false)
	if !met {
		at.Buffer = append(at.Buffer, c.Value)
		return nil
	}
	b.forget(other.task)
	return []impl.Woken{gets(other.task, number, c.Value)}
}

// receive lets the longest sender go first: what it sends stands behind Buffer then, whether that has room at all or not.
func (b *book) receive(task, number int, at *impl.Chan, channel int) []impl.Woken {
	var after []impl.Woken
	if other, otherNumber, met := b.first(channel, true); met {
		at.Buffer = append(at.Buffer, other.cases[otherNumber].Value)
		b.forget(other.task)
		after = append(after, gets(other.task, otherNumber, 0))
	}
	if len(at.Buffer) == 0 {
		return []impl.Woken{unserved(task, number)}
	}
	value := at.Buffer[0]
	at.Buffer = at.Buffer[1:]
	return append([]impl.Woken{gets(task, number, value)}, after...)
}

func (b *book) close(k int) ([]impl.Woken, int) {
	if b.chans[k].Closed {
		return nil, impl.HubClosed
	}
	var woken []impl.Woken
	for _, sends := range []bool{false, true} {
		for {
			a, number, met := b.first(k, sends)
			if !met {
				break
			}
			b.forget(a.task)
			woken = append(woken, unserved(a.task, number))
		}
	}
	b.chans[k].Closed = true
	return woken, impl.HubDone
}

// expectHub holds the hub behind a call against the book, and those that are woken against the promise itself.
func (b *book) expectHub(t *testing.T, h impl.Hub, woken []impl.Woken) {
	t.Helper()
	if !impl.GoodHub(h) || !sameHub(h, b.hub()) {
		t.Fatalf("%+v, not %+v", h, b.hub())
	}
	for k, w := range woken {
		if numbers, ok := impl.WaitingCases(h, w.Task); !ok || len(numbers) > 0 {
			t.Fatalf("task %d is woken, but waits at %v in %+v", w.Task, numbers, h)
		}
		if slices.ContainsFunc(woken[:k], func(o impl.Woken) bool { return o.Task == w.Task }) {
			t.Fatalf("task %d is told twice: %+v", w.Task, woken)
		}
	}
}

// expectOneOrAll: one case is done and the task waits nowhere, or it waits with all of them, or nothing is done.
func expectOneOrAll(t *testing.T, before, next impl.Hub, a ask, number, code int) {
	t.Helper()
	numbers, _ := impl.WaitingCases(next, a.task)
	switch code {
	case impl.HubDone:
		if number < 0 || len(numbers) > 0 {
			t.Fatalf("%+v: case %d is done, but it waits at %v", a, number, numbers)
		}
		return
	case impl.HubWaits:
		if number != -1 || !slices.Equal(numbers, numbersIn(a.cases)) {
			t.Fatalf("%+v: case %d, and it waits at %v", a, number, numbers)
		}
		return
	}
	if number != -1 || !sameHub(before, next) {
		t.Fatalf("%+v: code %d, but case %d, or %+v became %+v", a, code, number, before, next)
	}
}

// anyAsk takes each channel on one side alone; likes is how many of a hundred send.
func (r *turns) anyAsk(channels int, likes int, values *int) ask {
	a := ask{task: r.next(30)}
	sends := 0
	for k := range channels {
		if r.next(100) < likes {
			sends |= 1 << k
		}
	}
	for range r.next(7) {
		k := r.next(channels+1) - 1
		*values++
		if k >= 0 && sends>>k&1 == 1 {
			a.cases = append(a.cases, to(k, *values))
		} else {
			a.cases = append(a.cases, from(k))
		}
	}
	return a
}

func (b *book) stepClose(t *testing.T, h impl.Hub, k int) impl.Hub {
	t.Helper()
	next, woken, code := impl.CloseIn(h, k)
	if told, wants := b.close(k); code != wants || !slices.Equal(woken, told) {
		t.Fatalf("CloseIn of %+v, %d: %+v, %d, not %+v, %d", h, k, woken, code, told, wants)
	}
	b.expectHub(t, next, woken)
	return next
}

func (b *book) stepKill(t *testing.T, h impl.Hub, task int) impl.Hub {
	t.Helper()
	numbers, _ := impl.WaitingCases(h, task)
	next, often := impl.KillIn(h, task)
	if often != len(numbers) {
		t.Fatalf("task %d left %d times, but waited at %v", task, often, numbers)
	}
	b.forget(task)
	b.expectHub(t, next, nil)
	return next
}

func (b *book) stepSelect(t *testing.T, h impl.Hub, a ask, draw int, orElse bool) (impl.Hub, int) {
	t.Helper()
	next, number, woken, code := impl.SelectOn(h, a.task, a.cases, draw, orElse)
	wantNumber, told, wants := b.choose(a, draw, orElse)
	if number != wantNumber || code != wants || !slices.Equal(woken, told) {
		t.Fatalf("SelectOn of %+v, %+v, %d: %d, %+v, %d, not %d, %+v, %d", h, a, draw, number, woken, code, wantNumber, told, wants)
	}
	b.expectHub(t, next, woken)
	expectOneOrAll(t, h, next, a, number, code)
	return next, code
}

// Promise 4: of many cases one is done, or all wait; whoever is woken waits nowhere.
func TestPromise4(t *testing.T) {
	codes := map[int]int{}
	for seed := range 200 {
		r := turns(seed)
		channels, values := 1+seed%8, 0
		var b book
		for range channels {
			b.chans = append(b.chans, buffered([]int{0, 0, 1, 2, 10}[r.next(5)]))
		}
		h := b.hub()
		// Now nearly all receive, now nearly all send, so that both sides come to MaxWaiting.
		for step := range 400 {
			likes := []int{50, 4, 50, 96}[step/100]
			switch draw := r.next(200); {
			case draw < 1:
				h = b.stepClose(t, h, r.next(channels))
			case draw < 6:
				h = b.stepKill(t, h, r.next(30))
			default:
				next, code := b.stepSelect(t, h, r.anyAsk(channels, likes, &values), draw, r.next(8) == 0)
				h = next
				codes[code]++
			}
		}
	}
	expectMet(t, codes, 100, impl.HubDone, impl.HubWaits, impl.HubClosed, impl.HubElse, impl.HubFull, impl.HubTwice)
}
