package tests

import (
	"math"
	"slices"
	"testing"

	"loop.example/g00145/impl"
)

// by makes a waiter short enough to be read in a row; gets is one woken with a value, unserved one woken without.
func by(task, number, value int) impl.Waiter {
	return impl.Waiter{Task: task, Case: number, Value: value}
}

func gets(task, number, value int) impl.Woken {
	return impl.Woken{Task: task, Case: number, Value: value, Ok: true}
}

func unserved(task, number int) impl.Woken { return impl.Woken{Task: task, Case: number} }

func buffered(size int, values ...int) impl.Chan { return impl.Chan{Cap: size, Buffer: values} }

func closed(size int, values ...int) impl.Chan {
	return impl.Chan{Cap: size, Closed: true, Buffer: values}
}

// sending is a channel whose Buffer has as many numbers as it takes.
func sending(values []int, senders ...impl.Waiter) impl.Chan {
	return impl.Chan{Cap: len(values), Buffer: values, Senders: senders}
}

func receiving(size int, receivers ...impl.Waiter) impl.Chan {
	return impl.Chan{Cap: size, Receivers: receivers}
}

// countUp are that many numbers from the first on.
func countUp(first, many int) []int {
	var list []int
	for k := range many {
		list = append(list, first+k)
	}
	return list
}

// manySenders wait with Values from 100 on, manyReceivers with none; each task waits more than once.
func manySenders(many int) []impl.Waiter {
	var list []impl.Waiter
	for k := range many {
		list = append(list, by(k%7, k%10, 100+k))
	}
	return list
}

func manyReceivers(many int) []impl.Waiter {
	list := manySenders(many)
	for k := range list {
		list[k].Value = 0
	}
	return list
}

func TestChanConstants(t *testing.T) {
	got := []int{impl.MaxBuffer, impl.MaxWaiting, impl.ChanDone, impl.ChanWaits, impl.ChanBad, impl.ChanClosed, impl.ChanNil, impl.ChanFull}
	if want := []int{10, 40, 0, 1, 2, 3, 4, 5}; !slices.Equal(got, want) {
		t.Error(got, want)
	}
}

func goodChans() map[string]impl.Chan {
	return map[string]impl.Chan{
		"nothing":                      {},
		"empty lists":                  {Buffer: []int{}, Senders: []impl.Waiter{}, Receivers: []impl.Waiter{}},
		"room for one":                 buffered(1),
		"room for MaxBuffer":           buffered(10),
		"some of it":                   buffered(3, 7, 8),
		"one less than MaxBuffer":      buffered(10, countUp(1, 9)...),
		"MaxBuffer":                    buffered(10, countUp(1, 10)...),
		"any numbers":                  buffered(4, math.MinInt, -1, 0, math.MaxInt),
		"closed":                       closed(0),
		"closed, with room":            closed(5),
		"closed, something in it":      closed(3, 7, 8),
		"closed, full":                 closed(2, 7, 8),
		"closed, MaxBuffer":            closed(10, countUp(1, 10)...),
		"a sender, no room at all":     sending(nil, by(3, 4, 5)),
		"a sender, full":               sending([]int{7, 8}, by(3, 4, 5)),
		"senders, MaxBuffer":           sending(countUp(1, 10), by(3, 4, 5), by(2, 3, 4)),
		"MaxWaiting senders":           sending([]int{7}, manySenders(40)...),
		"MaxWaiting senders, no room":  sending(nil, manySenders(40)...),
		"the most of all":              sending(countUp(1, 10), manySenders(40)...),
		"senders at the edges":         sending(nil, by(0, 0, 0), by(29, 9, 0), by(0, 9, math.MinInt), by(29, 0, math.MaxInt)),
		"a sender twice":               sending(nil, by(3, 4, 5), by(3, 4, 5)),
		"a receiver, no room at all":   receiving(0, by(3, 4, 0)),
		"a receiver, room":             receiving(4, by(3, 4, 0)),
		"MaxWaiting receivers":         receiving(1, manyReceivers(40)...),
		"MaxWaiting receivers, most":   receiving(10, manyReceivers(40)...),
		"receivers at the edges":       receiving(0, by(0, 0, 0), by(29, 9, 0), by(0, 9, 0), by(29, 0, 0)),
		"a receiver twice":             receiving(0, by(3, 4, 0), by(3, 4, 0)),
		"a receiver at two cases":      receiving(2, by(3, 4, 0), by(1, 1, 0), by(3, 5, 0)),
		"one less than MaxWaiting":     sending(nil, manySenders(39)...),
		"one receiver less than that":  receiving(3, manyReceivers(39)...),
		"a sender's least int as such": sending([]int{math.MinInt}, by(1, 1, math.MinInt)),
	}
}

// strangeTasks and strangeCases lie just beyond what is good, and far away.
var (
	strangeTasks = []int{math.MinInt, -1, 30, 31, 77777, math.MaxInt}
	strangeCases = []int{math.MinInt, -1, 10, 11, 77777, math.MaxInt}
)

func badWaiters() []impl.Waiter {
	var list []impl.Waiter
	for _, task := range strangeTasks {
		list = append(list, by(task, 0, 0), by(task, 9, 5))
	}
	for _, number := range strangeCases {
		list = append(list, by(0, number, 0), by(29, number, 5))
	}
	return append(list, by(-1, -1, 0), by(30, 10, 0), by(math.MinInt, math.MaxInt, math.MinInt))
}

func badChans() map[string]impl.Chan {
	both := sending(nil, by(1, 1, 1))
	both.Receivers = []impl.Waiter{by(2, 2, 0)}
	bothWithRoom := buffered(2)
	bothWithRoom.Senders, bothWithRoom.Receivers = both.Senders, both.Receivers
	bothFull := sending([]int{4}, by(1, 1, 1))
	bothFull.Receivers = both.Receivers
	return map[string]impl.Chan{
		"cap below 0":                     buffered(-1),
		"cap least int":                   buffered(math.MinInt),
		"cap below 0, closed":             closed(-1),
		"cap beyond MaxBuffer":            buffered(11),
		"cap beyond MaxBuffer, full":      buffered(11, countUp(1, 11)...),
		"cap beyond MaxBuffer, closed":    closed(11, 1),
		"cap greatest int":                buffered(math.MaxInt, 1),
		"a number without room":           buffered(0, 7),
		"one more than cap":               buffered(3, 1, 2, 3, 4),
		"one more than MaxBuffer":         buffered(10, countUp(1, 11)...),
		"one more than cap, closed":       closed(3, 1, 2, 3, 4),
		"one more than cap, senders":      {Cap: 1, Buffer: []int{1, 2}, Senders: manySenders(1)},
		"more than MaxWaiting senders":    sending(nil, manySenders(41)...),
		"more than MaxWaiting, full":      sending(countUp(1, 10), manySenders(41)...),
		"more than MaxWaiting receivers":  receiving(0, manyReceivers(41)...),
		"more than MaxWaiting, room":      receiving(10, manyReceivers(41)...),
		"senders, though there is room":   {Cap: 1, Senders: manySenders(1)},
		"senders, one less than cap":      {Cap: 3, Buffer: []int{1, 2}, Senders: manySenders(2)},
		"senders, one less than the most": {Cap: 10, Buffer: countUp(1, 9), Senders: manySenders(1)},
		"senders, closed":                 {Cap: 1, Closed: true, Buffer: []int{1}, Senders: manySenders(1)},
		"senders, closed, no room":        {Closed: true, Senders: manySenders(1)},
		"receivers, something in it":      {Cap: 2, Buffer: []int{0}, Receivers: manyReceivers(1)},
		"receivers, full":                 {Cap: 2, Buffer: []int{1, 2}, Receivers: manyReceivers(1)},
		"receivers, closed":               {Cap: 2, Closed: true, Receivers: manyReceivers(1)},
		"receivers, closed, no room":      {Closed: true, Receivers: manyReceivers(1)},
		"senders and receivers":           both,
		"senders and receivers, room":     bothWithRoom,
		"senders and receivers, full":     bothFull,
		"a receiver's value":              receiving(0, by(1, 1, 1)),
		"a receiver's value below 0":      receiving(3, by(1, 1, -1)),
		"a receiver's least int":          receiving(0, by(1, 1, math.MinInt)),
		"a receiver's greatest int":       receiving(0, by(1, 1, math.MaxInt)),
		"the last receiver's value":       receiving(0, append(manyReceivers(39), by(1, 1, 1))...),
		"a hundred thousand numbers":      buffered(10, make([]int, 100000)...),
		"a hundred thousand senders":      sending(nil, make([]impl.Waiter, 100000)...),
		"a hundred thousand receivers":    receiving(0, make([]impl.Waiter, 100000)...),
	}
}

func TestGoodChan(t *testing.T) {
	for name, c := range goodChans() {
		t.Run(name, func(t *testing.T) { expectCall(t, impl.GoodChan, in(c), true) })
	}
	for name, c := range badChans() {
		t.Run(name, func(t *testing.T) { expectCall(t, impl.GoodChan, in(c), false) })
	}
}

// expectBadChan asks every function that takes a channel.
func expectBadChan(t *testing.T, c impl.Chan, waiters []impl.Waiter, tasks []int) {
	t.Helper()
	none := []impl.Woken{}
	expectCall(t, impl.GoodChan, in(c), false)
	expectCall(t, impl.MaySend, in(c), false)
	expectCall(t, impl.MayReceive, in(c), false)
	expectCall(t, impl.CloseChan, in(c), impl.Chan{}, none, impl.ChanBad)
	for _, w := range waiters {
		expectCall(t, impl.SendOn, in(c, w), impl.Chan{}, none, impl.ChanBad)
		expectCall(t, impl.ReceiveFrom, in(c, w), impl.Chan{}, none, impl.ChanBad)
	}
	for _, task := range tasks {
		expectCall(t, impl.LeaveChan, in(c, task), impl.Chan{}, -1)
	}
}

// ChanBad comes ahead of all other codes, with the zero channel and nobody woken.
func TestBadChanIsRefused(t *testing.T) {
	for name, c := range badChans() {
		t.Run(name, func(t *testing.T) {
			if len(c.Buffer)+len(c.Senders)+len(c.Receivers) > 100 {
				expectBadChan(t, c, []impl.Waiter{by(1, 1, 0)}, []int{1})
				return
			}
			expectBadChan(t, c, append(badWaiters(), by(0, 0, 0), by(1, 1, 0), by(29, 9, 5)), append([]int{0, 1, 29}, strangeTasks...))
		})
	}
}

// One that is not good is seen at the first place, in the midst and at the last.
func TestBadWaitersInAChan(t *testing.T) {
	for _, w := range badWaiters() {
		for _, place := range []int{0, 1, 2, 38, 39} {
			senders, receivers := manySenders(40), manyReceivers(40)
			senders[place], receivers[place] = w, by(w.Task, w.Case, 0)
			expectBadChan(t, sending([]int{7}, senders...), []impl.Waiter{by(1, 1, 0)}, []int{1})
			expectBadChan(t, receiving(3, receivers...), []impl.Waiter{by(1, 1, 0)}, []int{1})
		}
		expectBadChan(t, sending(nil, w), []impl.Waiter{by(1, 1, 0)}, []int{w.Task})
		expectBadChan(t, receiving(0, by(w.Task, w.Case, 0)), []impl.Waiter{by(1, 1, 0)}, []int{w.Task})
	}
}

// ... also where the channel is Closed, or full: ChanBad is looked for first.
func TestBadWaiterIsRefused(t *testing.T) {
	none := []impl.Woken{}
	for name, c := range goodChans() {
		t.Run(name, func(t *testing.T) {
			for _, w := range badWaiters() {
				expectCall(t, impl.SendOn, in(c, w), impl.Chan{}, none, impl.ChanBad)
				expectCall(t, impl.ReceiveFrom, in(c, w), impl.Chan{}, none, impl.ChanBad)
			}
			for _, value := range []int{math.MinInt, -1, 1, 5, math.MaxInt} {
				expectCall(t, impl.ReceiveFrom, in(c, by(0, 0, value)), impl.Chan{}, none, impl.ChanBad)
				expectCall(t, impl.ReceiveFrom, in(c, by(29, 9, value)), impl.Chan{}, none, impl.ChanBad)
			}
			for _, task := range strangeTasks {
				expectCall(t, impl.LeaveChan, in(c, task), impl.Chan{}, -1)
			}
		})
	}
}

func TestNewChan(t *testing.T) {
	for size := range 11 {
		expectCall(t, impl.NewChan, in(size), impl.Chan{Cap: size}, true)
	}
	for _, size := range []int{math.MinInt, math.MinInt + 1, -2, -1, 11, 12, 40, math.MaxInt - 1, math.MaxInt} {
		expectCall(t, impl.NewChan, in(size), impl.Chan{}, false)
	}
}

func TestMaySendAndReceive(t *testing.T) {
	for _, c := range []struct {
		name          string
		on            impl.Chan
		send, receive bool
	}{
		{"no room at all", buffered(0), false, false},
		{"room", buffered(1), true, false},
		{"the most room", buffered(10), true, false},
		{"room and something", buffered(2, 7), true, true},
		{"room for one more", buffered(10, countUp(1, 9)...), true, true},
		{"full", buffered(1, 7), false, true},
		{"MaxBuffer", buffered(10, countUp(1, 10)...), false, true},
		{"a 0 in it", buffered(1, 0), false, true},
		{"closed", closed(0), true, true},
		{"closed, room", closed(2), true, true},
		{"closed, full", closed(1, 7), true, true},
		{"a sender", sending(nil, by(1, 1, 1)), false, true},
		{"a sender, full", sending([]int{7}, by(1, 1, 1)), false, true},
		{"MaxWaiting senders", sending(nil, manySenders(40)...), false, true},
		{"a receiver", receiving(0, by(1, 1, 0)), true, false},
		{"a receiver, room", receiving(3, by(1, 1, 0)), true, false},
		{"MaxWaiting receivers", receiving(0, manyReceivers(40)...), true, false},
	} {
		t.Run(c.name, func(t *testing.T) {
			expectCall(t, impl.MaySend, in(c.on), c.send)
			expectCall(t, impl.MayReceive, in(c.on), c.receive)
		})
	}
}

func TestSendOn(t *testing.T) {
	none := []impl.Woken{}
	for _, c := range []struct {
		name  string
		on    impl.Chan
		who   impl.Waiter
		next  impl.Chan
		woken []impl.Woken
		code  int
	}{
		{"no room, nobody there", buffered(0), by(3, 4, 5), sending(nil, by(3, 4, 5)), none, impl.ChanWaits},
		{"room", buffered(1), by(3, 4, 5), buffered(1, 5), none, impl.ChanDone},
		{"behind the others", buffered(3, 9, 8), by(3, 4, 5), buffered(3, 9, 8, 5), none, impl.ChanDone},
		{"the last room of all", buffered(10, countUp(1, 9)...), by(3, 4, 5), buffered(10, 1, 2, 3, 4, 5, 6, 7, 8, 9, 5), none, impl.ChanDone},
		{"full", buffered(1, 9), by(3, 4, 5), sending([]int{9}, by(3, 4, 5)), none, impl.ChanWaits},
		{"MaxBuffer", buffered(10, countUp(1, 10)...), by(3, 4, 5), sending(countUp(1, 10), by(3, 4, 5)), none, impl.ChanWaits},
		{"behind a sender", sending([]int{9}, by(6, 7, 8)), by(3, 4, 5), sending([]int{9}, by(6, 7, 8), by(3, 4, 5)), none, impl.ChanWaits},
		{"behind itself", sending(nil, by(3, 4, 5)), by(3, 4, 5), sending(nil, by(3, 4, 5), by(3, 4, 5)), none, impl.ChanWaits},
		{"to a receiver", receiving(0, by(6, 7, 0)), by(3, 4, 5), buffered(0), []impl.Woken{gets(6, 7, 5)}, impl.ChanDone},
		{"to a receiver, room", receiving(2, by(6, 7, 0)), by(3, 4, 5), buffered(2), []impl.Woken{gets(6, 7, 5)}, impl.ChanDone},
		{"to the first receiver", receiving(1, by(6, 7, 0), by(1, 2, 0), by(6, 7, 0)), by(3, 4, 5), receiving(1, by(1, 2, 0), by(6, 7, 0)), []impl.Woken{gets(6, 7, 5)}, impl.ChanDone},
		{"to itself", receiving(0, by(3, 9, 0)), by(3, 4, 5), buffered(0), []impl.Woken{gets(3, 9, 5)}, impl.ChanDone},
		{"a 0 to a receiver", receiving(0, by(6, 7, 0)), by(3, 4, 0), buffered(0), []impl.Woken{gets(6, 7, 0)}, impl.ChanDone},
		{"the first task and case", buffered(0), by(0, 0, 0), sending(nil, by(0, 0, 0)), none, impl.ChanWaits},
		{"the last task and case", buffered(0), by(29, 9, 1), sending(nil, by(29, 9, 1)), none, impl.ChanWaits},
		{"to the last task and case", receiving(0, by(29, 9, 0)), by(0, 0, 7), buffered(0), []impl.Woken{gets(29, 9, 7)}, impl.ChanDone},
		{"closed", closed(0), by(3, 4, 5), closed(0), none, impl.ChanClosed},
		{"closed, room", closed(3, 9), by(3, 4, 5), closed(3, 9), none, impl.ChanClosed},
		{"closed, full", closed(1, 9), by(3, 4, 5), closed(1, 9), none, impl.ChanClosed},
	} {
		t.Run(c.name, func(t *testing.T) { expectCall(t, impl.SendOn, in(c.on, c.who), c.next, c.woken, c.code) })
	}
}

func TestReceiveFrom(t *testing.T) {
	none := []impl.Woken{}
	for _, c := range []struct {
		name  string
		from  impl.Chan
		who   impl.Waiter
		next  impl.Chan
		woken []impl.Woken
		code  int
	}{
		{"nothing there", buffered(0), by(3, 4, 0), receiving(0, by(3, 4, 0)), none, impl.ChanWaits},
		{"nothing there, room", buffered(10), by(3, 4, 0), receiving(10, by(3, 4, 0)), none, impl.ChanWaits},
		{"behind a receiver", receiving(2, by(6, 7, 0)), by(3, 4, 0), receiving(2, by(6, 7, 0), by(3, 4, 0)), none, impl.ChanWaits},
		{"behind itself", receiving(0, by(3, 4, 0)), by(3, 4, 0), receiving(0, by(3, 4, 0), by(3, 4, 0)), none, impl.ChanWaits},
		{"the first task and case", buffered(0), by(0, 0, 0), receiving(0, by(0, 0, 0)), none, impl.ChanWaits},
		{"the last task and case", buffered(0), by(29, 9, 0), receiving(0, by(29, 9, 0)), none, impl.ChanWaits},
		{"the only number", buffered(1, 9), by(3, 4, 0), buffered(1), []impl.Woken{gets(3, 4, 9)}, impl.ChanDone},
		{"the first number", buffered(3, 9, 8, 7), by(3, 4, 0), buffered(3, 8, 7), []impl.Woken{gets(3, 4, 9)}, impl.ChanDone},
		{"the first of MaxBuffer", buffered(10, countUp(1, 10)...), by(3, 4, 0), buffered(10, countUp(2, 9)...), []impl.Woken{gets(3, 4, 1)}, impl.ChanDone},
		{"a 0", buffered(1, 0), by(3, 4, 0), buffered(1), []impl.Woken{gets(3, 4, 0)}, impl.ChanDone},
		{"a sender's, no room", sending(nil, by(6, 7, 8)), by(3, 4, 0), buffered(0), []impl.Woken{gets(3, 4, 8), gets(6, 7, 0)}, impl.ChanDone},
		{"the first sender's", sending(nil, by(6, 7, 8), by(1, 2, 3)), by(3, 4, 0), sending(nil, by(1, 2, 3)), []impl.Woken{gets(3, 4, 8), gets(6, 7, 0)}, impl.ChanDone},
		{"one moves up", sending([]int{9}, by(6, 7, 8)), by(3, 4, 0), buffered(1, 8), []impl.Woken{gets(3, 4, 9), gets(6, 7, 0)}, impl.ChanDone},
		{"the first moves up", sending([]int{9, 5}, by(6, 7, 8), by(1, 2, 3)), by(3, 4, 0), sending([]int{5, 8}, by(1, 2, 3)), []impl.Woken{gets(3, 4, 9), gets(6, 7, 0)}, impl.ChanDone},
		{"one moves up behind MaxBuffer", sending(countUp(1, 10), by(6, 7, 11)), by(3, 4, 0), buffered(10, countUp(2, 10)...), []impl.Woken{gets(3, 4, 1), gets(6, 7, 0)}, impl.ChanDone},
		{"a sender's 0", sending(nil, by(6, 7, 0)), by(3, 4, 0), buffered(0), []impl.Woken{gets(3, 4, 0), gets(6, 7, 0)}, impl.ChanDone},
		{"from itself", sending(nil, by(3, 9, 8)), by(3, 4, 0), buffered(0), []impl.Woken{gets(3, 4, 8), gets(3, 9, 0)}, impl.ChanDone},
		{"itself moves up", sending([]int{9}, by(3, 4, 8)), by(3, 4, 0), buffered(1, 8), []impl.Woken{gets(3, 4, 9), gets(3, 4, 0)}, impl.ChanDone},
		{"at the edges", sending(nil, by(29, 9, 8)), by(0, 0, 0), buffered(0), []impl.Woken{gets(0, 0, 8), gets(29, 9, 0)}, impl.ChanDone},
		{"closed", closed(0), by(3, 4, 0), closed(0), []impl.Woken{unserved(3, 4)}, impl.ChanDone},
		{"closed, room", closed(10), by(29, 9, 0), closed(10), []impl.Woken{unserved(29, 9)}, impl.ChanDone},
		{"closed, something in it", closed(3, 9, 8), by(3, 4, 0), closed(3, 8), []impl.Woken{gets(3, 4, 9)}, impl.ChanDone},
		{"closed, the last of it", closed(3, 9), by(3, 4, 0), closed(3), []impl.Woken{gets(3, 4, 9)}, impl.ChanDone},
		{"closed, MaxBuffer", closed(10, countUp(1, 10)...), by(3, 4, 0), closed(10, countUp(2, 9)...), []impl.Woken{gets(3, 4, 1)}, impl.ChanDone},
	} {
		t.Run(c.name, func(t *testing.T) { expectCall(t, impl.ReceiveFrom, in(c.from, c.who), c.next, c.woken, c.code) })
	}
}

// Any int goes through a channel on every way: over Buffer, to one that waits, from one that waits, and up into Buffer.
func TestAnyValueGoesThrough(t *testing.T) {
	for _, value := range []int{math.MinInt, math.MinInt + 1, -1, 0, 1, math.MaxInt - 1, math.MaxInt} {
		expectCall(t, impl.SendOn, in(buffered(2, 9), by(3, 4, value)), buffered(2, 9, value), []impl.Woken{}, impl.ChanDone)
		expectCall(t, impl.SendOn, in(receiving(2, by(6, 7, 0)), by(3, 4, value)), buffered(2), []impl.Woken{gets(6, 7, value)}, impl.ChanDone)
		expectCall(t, impl.SendOn, in(buffered(0), by(3, 4, value)), sending(nil, by(3, 4, value)), []impl.Woken{}, impl.ChanWaits)
		expectCall(t, impl.ReceiveFrom, in(buffered(2, value, 9), by(3, 4, 0)), buffered(2, 9), []impl.Woken{gets(3, 4, value)}, impl.ChanDone)
		expectCall(t, impl.ReceiveFrom, in(closed(2, value, 9), by(3, 4, 0)), closed(2, 9), []impl.Woken{gets(3, 4, value)}, impl.ChanDone)
		expectCall(t, impl.ReceiveFrom, in(sending(nil, by(6, 7, value)), by(3, 4, 0)), buffered(0), []impl.Woken{gets(3, 4, value), gets(6, 7, 0)}, impl.ChanDone)
		expectCall(t, impl.ReceiveFrom, in(sending([]int{9}, by(6, 7, value)), by(3, 4, 0)), buffered(1, value), []impl.Woken{gets(3, 4, 9), gets(6, 7, 0)}, impl.ChanDone)
	}
}

// MaxWaiting is met exactly, and passed, on both sides; with and without room in Buffer.
func TestMaxWaiting(t *testing.T) {
	none := []impl.Woken{}
	for _, size := range []int{0, 1, 10} {
		nearly, full := sending(countUp(1, size), manySenders(39)...), sending(countUp(1, size), manySenders(40)...)
		last := full.Senders[39]
		expectCall(t, impl.SendOn, in(nearly, last), full, none, impl.ChanWaits)
		expectCall(t, impl.SendOn, in(full, last), full, none, impl.ChanFull)
		expectCall(t, impl.SendOn, in(full, by(29, 9, 5)), full, none, impl.ChanFull)
		waiting, crowded := receiving(size, manyReceivers(39)...), receiving(size, manyReceivers(40)...)
		last = crowded.Receivers[39]
		expectCall(t, impl.ReceiveFrom, in(waiting, last), crowded, none, impl.ChanWaits)
		expectCall(t, impl.ReceiveFrom, in(crowded, last), crowded, none, impl.ChanFull)
		expectCall(t, impl.ReceiveFrom, in(crowded, by(29, 9, 0)), crowded, none, impl.ChanFull)
		// Where MaxWaiting wait on the one side, the other one finds them.
		next, woken, code := modelReceive(full, by(29, 9, 0))
		expectCall(t, impl.ReceiveFrom, in(full, by(29, 9, 0)), next, woken, code)
		expectCall(t, impl.SendOn, in(crowded, by(29, 9, 5)), receiving(size, manyReceivers(40)[1:]...), []impl.Woken{gets(0, 0, 5)}, impl.ChanDone)
	}
}

func TestCloseChan(t *testing.T) {
	none := []impl.Woken{}
	expectCall(t, impl.CloseChan, in(impl.Chan{}), closed(0), none, impl.ChanDone)
	expectCall(t, impl.CloseChan, in(buffered(4)), closed(4), none, impl.ChanDone)
	expectCall(t, impl.CloseChan, in(buffered(4, 9, 8)), closed(4, 9, 8), none, impl.ChanDone)
	expectCall(t, impl.CloseChan, in(buffered(10, countUp(1, 10)...)), closed(10, countUp(1, 10)...), none, impl.ChanDone)
	expectCall(t, impl.CloseChan, in(sending(nil, by(3, 4, 5))), closed(0), []impl.Woken{unserved(3, 4)}, impl.ChanDone)
	// What stands in Buffer can still be received, what senders still had is not sent.
	expectCall(t, impl.CloseChan, in(sending([]int{9}, by(6, 7, 8), by(0, 0, math.MinInt), by(6, 7, 8))), closed(1, 9), []impl.Woken{unserved(6, 7), unserved(0, 0), unserved(6, 7)}, impl.ChanDone)
	expectCall(t, impl.CloseChan, in(receiving(0, by(3, 4, 0))), closed(0), []impl.Woken{unserved(3, 4)}, impl.ChanDone)
	expectCall(t, impl.CloseChan, in(receiving(3, by(29, 9, 0), by(0, 0, 0), by(29, 8, 0))), closed(3), []impl.Woken{unserved(29, 9), unserved(0, 0), unserved(29, 8)}, impl.ChanDone)
	for _, c := range []impl.Chan{closed(0), closed(4), closed(4, 9, 8), closed(10, countUp(1, 10)...)} {
		expectCall(t, impl.CloseChan, in(c), c, none, impl.ChanClosed)
	}
	for _, c := range []impl.Chan{sending(countUp(1, 10), manySenders(40)...), receiving(10, manyReceivers(40)...)} {
		var all []impl.Woken
		for k := range 40 {
			all = append(all, unserved(k%7, k%10))
		}
		expectCall(t, impl.CloseChan, in(c), closed(10, c.Buffer...), all, impl.ChanDone)
	}
}

func TestLeaveChan(t *testing.T) {
	two := sending([]int{9}, by(3, 4, 5), by(1, 1, 6), by(3, 8, 7), by(3, 4, 5))
	expectCall(t, impl.LeaveChan, in(two, 3), sending([]int{9}, by(1, 1, 6)), 3)
	expectCall(t, impl.LeaveChan, in(two, 1), sending([]int{9}, by(3, 4, 5), by(3, 8, 7), by(3, 4, 5)), 1)
	waiting := receiving(2, by(0, 4, 0), by(29, 1, 0), by(29, 2, 0), by(0, 8, 0))
	expectCall(t, impl.LeaveChan, in(waiting, 0), receiving(2, by(29, 1, 0), by(29, 2, 0)), 2)
	expectCall(t, impl.LeaveChan, in(waiting, 29), receiving(2, by(0, 4, 0), by(0, 8, 0)), 2)
	expectCall(t, impl.LeaveChan, in(sending(nil, by(3, 4, 5)), 3), buffered(0), 1)
	expectCall(t, impl.LeaveChan, in(receiving(0, by(3, 4, 0)), 3), buffered(0), 1)
	for _, task := range []int{0, 2, 28, 29} {
		expectCall(t, impl.LeaveChan, in(two, task), two, 0)
	}
	for _, c := range []impl.Chan{{}, buffered(3, 3), closed(0), closed(3, 3, 3)} {
		expectCall(t, impl.LeaveChan, in(c, 3), c, 0)
		expectCall(t, impl.LeaveChan, in(c, 0), c, 0)
		expectCall(t, impl.LeaveChan, in(c, 29), c, 0)
	}
	// 40 that wait are of 7 tasks in turn: the first five have one more.
	for task, many := range []int{6, 6, 6, 6, 6, 5, 5} {
		for _, c := range []impl.Chan{sending([]int{9}, manySenders(40)...), receiving(1, manyReceivers(40)...)} {
			want, often := modelLeaveChan(c, task)
			expectCall(t, impl.LeaveChan, in(c, task), want, many)
			if often != many {
				t.Error("the second telling counts", often)
			}
		}
	}
	all := receiving(0, slices.Repeat([]impl.Waiter{by(5, 5, 0)}, 40)...)
	expectCall(t, impl.LeaveChan, in(all, 5), buffered(0), 40)
}

// The empty list and the nil list are the same value, also in a channel.
func TestEmptyListsInAChan(t *testing.T) {
	empty := impl.Chan{Cap: 1, Buffer: []int{}, Senders: []impl.Waiter{}, Receivers: []impl.Waiter{}}
	expectChanModel(t, empty, []impl.Waiter{by(1, 2, 3), by(1, 2, 0)}, []int{1})
	empty.Closed = true
	expectChanModel(t, empty, []impl.Waiter{by(1, 2, 3), by(1, 2, 0)}, []int{1})
}

func expectChanModel(t *testing.T, c impl.Chan, waiters []impl.Waiter, tasks []int) {
	t.Helper()
	expectCall(t, impl.GoodChan, in(c), modelGoodChan(c))
	expectCall(t, impl.MaySend, in(c), modelMaySend(c))
	expectCall(t, impl.MayReceive, in(c), modelMayReceive(c))
	next, woken, code := modelClose(c)
	expectCall(t, impl.CloseChan, in(c), next, woken, code)
	for _, w := range waiters {
		next, woken, code := modelSend(c, w)
		expectCall(t, impl.SendOn, in(c, w), next, woken, code)
		next, woken, code = modelReceive(c, w)
		expectCall(t, impl.ReceiveFrom, in(c, w), next, woken, code)
	}
	for _, task := range tasks {
		next, often := modelLeaveChan(c, task)
		expectCall(t, impl.LeaveChan, in(c, task), next, often)
	}
}

func TestTheTablesAgainstTheModel(t *testing.T) {
	waiters := []impl.Waiter{by(0, 0, 0), by(29, 9, 0), by(3, 4, 5), by(30, 0, 0), by(0, 10, 0)}
	for name, c := range goodChans() {
		t.Run(name, func(t *testing.T) { expectChanModel(t, c, waiters, []int{-1, 0, 3, 29, 30}) })
	}
}

func TestAllSmallChans(t *testing.T) {
	waiting := listsOf([]impl.Waiter{by(0, 0, 0), by(29, 9, 0), by(1, 3, 7), by(30, 0, 0), by(0, 10, 0)}, 2)
	met := 0
	for _, buffer := range listsOf([]int{4, -5}, 2) {
		for _, senders := range waiting {
			for _, receivers := range waiting {
				for size := -1; size <= 3; size++ {
					for _, over := range []bool{false, true} {
						c := impl.Chan{Cap: size, Closed: over, Buffer: buffer, Senders: senders, Receivers: receivers}
						if got := impl.GoodChan(c); got != modelGoodChan(c) {
							t.Fatalf("GoodChan of %+v: %v", c, got)
						}
						if modelGoodChan(c) {
							met++
							expectChanModel(t, c, []impl.Waiter{by(0, 0, 0), by(2, 5, 8), by(-1, 0, 0)}, []int{-1, 0, 1, 2, 29, 30})
						}
					}
				}
			}
		}
	}
	// 36 where nobody waits, 84 with senders and 24 with receivers.
	if met != 144 {
		t.Error("not all good channels were met:", met)
	}
}

// Promise 14: channels of any numbers.
func TestAnyChanIsAnswered(t *testing.T) {
	r := turns(314)
	for range 2000 {
		c := impl.Chan{Cap: r.anyInt(), Closed: r.next(4) == 0}
		for range r.next(2) * r.next(13) {
			c.Buffer = append(c.Buffer, r.wideInt())
		}
		for range r.next(2) * r.next(44) {
			c.Senders = append(c.Senders, by(r.anyInt(), r.anyInt(), r.anyInt()))
		}
		for range r.next(2) * r.next(44) {
			c.Receivers = append(c.Receivers, by(r.anyInt(), r.anyInt(), r.anyInt()))
		}
		expectChanModel(t, c, []impl.Waiter{by(r.anyInt(), r.anyInt(), 0), by(r.anyInt(), r.anyInt(), r.wideInt())}, []int{r.anyInt(), r.wideInt()})
	}
}

// anyGoodChan is of every kind: closed or not, with senders, with receivers, or with none that wait.
func (r *turns) anyGoodChan() impl.Chan {
	c := impl.Chan{Cap: r.next(11)}
	many := []int{1, r.next(41), r.next(41), 40}[r.next(4)]
	switch r.next(4) {
	case 0:
		c.Closed = r.next(2) == 0
		c.Buffer = r.anyValues(r.next(c.Cap + 1))
	case 1, 2:
		c.Buffer = r.anyValues(c.Cap)
		for range many {
			c.Senders = append(c.Senders, by(r.next(30), r.next(10), r.wideInt()))
		}
	default:
		for range many {
			c.Receivers = append(c.Receivers, by(r.next(30), r.next(10), 0))
		}
	}
	return c
}

func (r *turns) anyValues(many int) []int {
	var list []int
	for range many {
		list = append(list, r.wideInt())
	}
	return list
}

func TestManyGoodChans(t *testing.T) {
	r := turns(33)
	for range 1500 {
		c := r.anyGoodChan()
		if !impl.GoodChan(c) {
			t.Fatalf("%+v is not good", c)
		}
		expectChanModel(t, c, []impl.Waiter{by(r.next(30), r.next(10), 0), by(r.next(30), r.next(10), r.wideInt())}, []int{r.next(30), r.next(30)})
	}
}

// What is answered is good wherever it is not ChanBad, whatever was done.
func TestAnswersAreGoodChans(t *testing.T) {
	r := turns(333)
	for range 1500 {
		c := r.anyGoodChan()
		sent, _, _ := impl.SendOn(c, by(r.next(30), r.next(10), r.wideInt()))
		received, _, _ := impl.ReceiveFrom(c, by(r.next(30), r.next(10), 0))
		over, _, _ := impl.CloseChan(c)
		left, _ := impl.LeaveChan(c, r.next(30))
		for _, next := range []impl.Chan{sent, received, over, left} {
			if !impl.GoodChan(next) || next.Cap != c.Cap {
				t.Fatalf("of %+v: %+v", c, next)
			}
		}
	}
}

// ledger is the plain telling of promise 3: all that was sent and all that was asked for, in order.
// Whatever the channel does with it, the first that was sent goes to the first that asked.
type ledger struct {
	sent   []impl.Waiter
	asked  []impl.Waiter
	given  int
	parked []impl.Waiter
	codes  map[int]int
}

// expectGiven holds what was told as received against the next that was sent and the next that asked.
func (l *ledger) expectGiven(t *testing.T, w impl.Woken) {
	t.Helper()
	if l.given == len(l.sent) || l.given == len(l.asked) {
		t.Fatalf("%+v received what was not sent, or did not ask", w)
	}
	who, what := l.asked[l.given], l.sent[l.given]
	if w != gets(who.Task, who.Case, what.Value) {
		t.Fatalf("received %+v, but %+v asked and %+v was sent", w, who, what)
	}
	l.given++
}

func (l *ledger) send(t *testing.T, c impl.Chan, w impl.Waiter) impl.Chan {
	t.Helper()
	next, woken, code := impl.SendOn(c, w)
	l.codes[code]++
	if code == impl.ChanFull {
		return l.unchanged(t, c, next, woken)
	}
	l.sent = append(l.sent, w)
	if code == impl.ChanWaits {
		l.parked = append(l.parked, w)
	}
	for _, receiver := range woken {
		l.expectGiven(t, receiver)
	}
	return next
}

func (l *ledger) receive(t *testing.T, c impl.Chan, w impl.Waiter) impl.Chan {
	t.Helper()
	next, woken, code := impl.ReceiveFrom(c, w)
	l.codes[code]++
	if code == impl.ChanFull {
		return l.unchanged(t, c, next, woken)
	}
	l.asked = append(l.asked, w)
	if len(woken) == 0 {
		return next
	}
	l.expectGiven(t, woken[0])
	for _, sender := range woken[1:] {
		if first := l.parked[0]; sender != gets(first.Task, first.Case, 0) {
			t.Fatalf("woken %+v, but %+v waits first", sender, first)
		}
		l.parked = l.parked[1:]
	}
	return next
}

func (l *ledger) leave(t *testing.T, c impl.Chan, task int) impl.Chan {
	t.Helper()
	next, often := impl.LeaveChan(c, task)
	before := len(l.sent) + len(l.asked)
	left := func(w impl.Waiter) bool { return w.Task == task }
	settled := len(l.sent) - len(l.parked)
	l.parked = slices.DeleteFunc(l.parked, left)
	l.sent = append(l.sent[:settled:settled], l.parked...)
	// Whoever has what it asked for is not touched.
	l.asked = append(l.asked[:l.given:l.given], slices.DeleteFunc(slices.Clone(l.asked[l.given:]), left)...)
	if gone := before - len(l.sent) - len(l.asked); gone != often {
		t.Fatalf("task %d left %+v %d times, not %d", task, c, often, gone)
	}
	return next
}

func (l *ledger) unchanged(t *testing.T, before, next impl.Chan, woken []impl.Woken) impl.Chan {
	t.Helper()
	if len(woken) > 0 || !sameValues([]any{before}, []any{next}) {
		t.Fatalf("refused, but changed %+v to %+v, woken %+v", before, next, woken)
	}
	return next
}

// expectAll: nobody waits while there is something to have, and what the channel holds is what is not given yet.
func (l *ledger) expectAll(t *testing.T, c impl.Chan) {
	t.Helper()
	if l.given != min(len(l.sent), len(l.asked)) {
		t.Fatalf("%d sent, %d asked, but %d given", len(l.sent), len(l.asked), l.given)
	}
	var values, held []int
	for _, w := range l.sent[l.given:] {
		values = append(values, w.Value)
	}
	held = append(held, c.Buffer...)
	for _, w := range c.Senders {
		held = append(held, w.Value)
	}
	if !impl.GoodChan(c) || !slices.Equal(values, held) || !slices.Equal(c.Senders, l.parked) || !slices.Equal(c.Receivers, l.asked[l.given:]) {
		t.Fatalf("%+v holds %v, not %v, or those that wait are not %v and %v", c, held, values, l.parked, l.asked[l.given:])
	}
}

// Promise 3: what is received from a channel that is open is what was sent, in order.
func TestPromise3(t *testing.T) {
	codes := map[int]int{}
	for seed := range 44 {
		r := turns(seed)
		c, ok := impl.NewChan(seed % 11)
		if !ok {
			t.Fatal(seed)
		}
		l := ledger{codes: codes}
		// Now more is sent, now more is asked for, so that both sides come to MaxWaiting.
		for step := range 1200 {
			likes := []int{50, 80, 50, 20}[step/150%4]
			switch draw := r.next(100); {
			case draw < likes:
				c = l.send(t, c, by(r.next(30), r.next(10), seed*10000+step))
			default:
				c = l.receive(t, c, by(r.next(30), r.next(10), 0))
			}
			if r.next(20) == 0 {
				c = l.leave(t, c, r.next(30))
			}
			l.expectAll(t, c)
		}
		expectDrained(t, c)
	}
	for _, code := range []int{impl.ChanDone, impl.ChanWaits, impl.ChanFull} {
		if codes[code] < 100 {
			t.Error("code", code, "was met too seldom:", codes)
		}
	}
}

// expectDrained closes the channel: what it has in Buffer still comes, in order, and then 0, not Ok, without end.
func expectDrained(t *testing.T, c impl.Chan) {
	t.Helper()
	over, woken, code := impl.CloseChan(c)
	if code != impl.ChanDone || len(woken) != len(c.Senders)+len(c.Receivers) {
		t.Fatalf("%+v closed: %+v, code %d", c, woken, code)
	}
	for _, value := range c.Buffer {
		over, woken, code = impl.ReceiveFrom(over, by(2, 3, 0))
		if code != impl.ChanDone || !slices.Equal(woken, []impl.Woken{gets(2, 3, value)}) {
			t.Fatalf("%+v: %+v, code %d, but %d is next", over, woken, code, value)
		}
	}
	for range 3 {
		over, woken, code = impl.ReceiveFrom(over, by(2, 3, 0))
		if code != impl.ChanDone || !slices.Equal(woken, []impl.Woken{unserved(2, 3)}) {
			t.Fatalf("%+v: %+v, code %d, but it is empty", over, woken, code)
		}
		if _, _, code := impl.SendOn(over, by(2, 3, 4)); code != impl.ChanClosed {
			t.Fatalf("%+v takes what is sent: code %d", over, code)
		}
	}
}

// Promise 3 without waiting: whole rows are sent, then received.
func TestRowsComeInOrder(t *testing.T) {
	for size := range 11 {
		c, _ := impl.NewChan(size)
		var row []int
		for k := range size + 40 {
			next, woken, code := impl.SendOn(c, by(k%30, k%10, k*k-7))
			wants := impl.ChanDone
			if k >= size {
				wants = impl.ChanWaits
			}
			if code != wants || len(woken) > 0 {
				t.Fatalf("%d of %d: %+v, code %d", k, size, woken, code)
			}
			c, row = next, append(row, k*k-7)
		}
		if _, _, code := impl.SendOn(c, by(1, 1, 1)); code != impl.ChanFull {
			t.Fatalf("%+v: code %d", c, code)
		}
		for k, value := range row {
			next, woken, code := impl.ReceiveFrom(c, by(9, 8, 0))
			want := []impl.Woken{gets(9, 8, value)}
			if sender := k + size; sender < len(row) {
				want = append(want, gets(sender%30, sender%10, 0))
			}
			if code != impl.ChanDone || !slices.Equal(woken, want) {
				t.Fatalf("%d of %d: %+v, not %+v, code %d", k, size, woken, want, code)
			}
			c = next
		}
		if !sameValues([]any{c}, []any{impl.Chan{Cap: size}}) {
			t.Fatalf("%+v is left", c)
		}
	}
}
