package tests

import (
	"math"
	"slices"
	"testing"

	"loop.example/g00145/impl"
)

func hub(chans ...impl.Chan) impl.Hub { return impl.Hub{Chans: chans} }

// from is a case that receives, to one that sends.
func from(channel int) impl.Case { return impl.Case{Chan: channel} }

func to(channel, value int) impl.Case { return impl.Case{Chan: channel, Send: true, Value: value} }

// crowd are that many that wait, no two of one task and case: the tasks first/10 and on, ten cases each.
func crowd(first, many int) []impl.Waiter {
	var list []impl.Waiter
	for k := first; k < first+many; k++ {
		list = append(list, by(k/10, k%10, 0))
	}
	return list
}

// fullHub has as many that wait as there are tasks and cases: MaxWaiting at seven channels, 20 at the last one.
func fullHub() impl.Hub {
	var h impl.Hub
	for k := range 8 {
		waiting := crowd(40*k, min(40, 300-40*k))
		if k%2 == 0 {
			h.Chans = append(h.Chans, receiving(k, waiting...))
		} else {
			h.Chans = append(h.Chans, sending(countUp(1, k), waiting...))
		}
	}
	return h
}

func manyChans(many int) []impl.Chan {
	var list []impl.Chan
	for k := range many {
		list = append(list, buffered(k%11))
	}
	return list
}

func TestHubConstants(t *testing.T) {
	got := []int{impl.MaxChans, impl.MaxCases, impl.HubDone, impl.HubWaits, impl.HubBad, impl.HubClosed, impl.HubElse, impl.HubFull, impl.HubTwice}
	if want := []int{8, 6, 0, 1, 2, 3, 4, 5, 6}; !slices.Equal(got, want) {
		t.Error(got, want)
	}
}

func goodHubs() map[string]impl.Hub {
	return map[string]impl.Hub{
		"no channel":                     {},
		"an empty list of channels":      {Chans: []impl.Chan{}},
		"one channel":                    hub(buffered(0)),
		"MaxChans":                       hub(manyChans(8)...),
		"one less than MaxChans":         hub(manyChans(7)...),
		"all kinds":                      hub(buffered(2, 7), closed(1, 8), sending(nil, by(1, 0, 5)), receiving(3, by(2, 0, 0)), closed(0)),
		"one case of two tasks":          hub(receiving(0, by(1, 3, 0), by(2, 3, 0)), receiving(0, by(4, 3, 0))),
		"two cases of one task":          hub(receiving(0, by(1, 3, 0)), receiving(0, by(1, 4, 0))),
		"two cases at one channel":       hub(sending(nil, by(1, 3, 7), by(1, 4, 7))),
		"a task at both sides of two":    hub(sending(nil, by(1, 3, 7)), receiving(0, by(1, 4, 0))),
		"all ten cases of a task":        hub(receiving(0, crowd(290, 5)...), sending([]int{4}, crowd(295, 5)...)),
		"MaxWaiting at several channels": hub(receiving(0, crowd(0, 40)...), sending(nil, crowd(40, 40)...), receiving(4, crowd(80, 40)...)),
		"all that can wait":              fullHub(),
		"any values of those that send":  hub(sending([]int{math.MinInt}, by(0, 0, math.MinInt), by(29, 9, math.MaxInt), by(0, 1, 0))),
	}
}

func badHubs() map[string]impl.Hub {
	twiceAtTheEnd := fullHub()
	twiceAtTheEnd.Chans[7].Senders[19] = by(0, 0, 0)
	crowded := hub(manyChans(9)...)
	crowded.Chans[8] = sending(nil, by(1, 1, 1))
	return map[string]impl.Hub{
		"one more than MaxChans":            hub(manyChans(9)...),
		"one more, somebody waits there":    crowded,
		"a hundred channels":                hub(make([]impl.Chan, 100)...),
		"twice among Senders":               hub(sending(nil, by(1, 3, 5), by(1, 3, 5))),
		"twice among Senders, other values": hub(sending(nil, by(1, 3, 5), by(2, 3, 5), by(1, 3, 6))),
		"twice among Receivers":             hub(receiving(1, by(1, 3, 0), by(1, 3, 0))),
		"twice among two Senders":           hub(sending(nil, by(1, 3, 5)), buffered(1), sending([]int{7}, by(1, 3, 6))),
		"twice among two Receivers":         hub(receiving(0, by(29, 9, 0)), receiving(0, by(29, 9, 0))),
		"twice, once on each side":          hub(receiving(0, by(0, 0, 0)), sending(nil, by(0, 0, 0))),
		"twice, at the first and the last":  hub(append(append([]impl.Chan{receiving(0, by(5, 5, 0))}, manyChans(6)...), receiving(1, by(4, 5, 0), by(5, 4, 0), by(5, 5, 0)))...),
		"twice, the last of all":            twiceAtTheEnd,
		"both sides of one channel":         hub(impl.Chan{Senders: []impl.Waiter{by(1, 0, 5)}, Receivers: []impl.Waiter{by(1, 1, 0)}}),
		"both sides, other tasks":           hub(buffered(0), impl.Chan{Senders: []impl.Waiter{by(1, 0, 5)}, Receivers: []impl.Waiter{by(2, 1, 0)}}),
	}
}

func TestGoodHub(t *testing.T) {
	for name, h := range goodHubs() {
		t.Run(name, func(t *testing.T) { expectCall(t, impl.GoodHub, in(h), true) })
	}
	for name, h := range badHubs() {
		t.Run(name, func(t *testing.T) { expectCall(t, impl.GoodHub, in(h), false) })
	}
}

// expectBadHub asks every function that takes a hub, with what would be good otherwise.
func expectBadHub(t *testing.T, h impl.Hub) {
	t.Helper()
	var none []impl.Woken
	var numbers []int
	expectCall(t, impl.GoodHub, in(h), false)
	for _, task := range []int{0, 1, 29, 30, -1} {
		expectCall(t, impl.WaitingCases, in(h, task), numbers, false)
		expectCall(t, impl.KillIn, in(h, task), impl.Hub{}, -1)
		expectCall(t, impl.SelectOn, in(h, task, []impl.Case{from(0)}, 0, true), impl.Hub{}, -1, none, impl.HubBad)
	}
	for _, l := range [][]impl.Case{nil, {from(-1)}, {from(0)}, {to(0, 5), from(77)}} {
		expectCall(t, impl.GoodCases, in(h, l), false)
		expectCall(t, impl.ReadyCases, in(h, l), numbers, false)
		expectCall(t, impl.SelectOn, in(h, 28, l, 3, false), impl.Hub{}, -1, none, impl.HubBad)
	}
	for _, k := range []int{-1, 0, 1, 8} {
		expectCall(t, impl.CloseIn, in(h, k), impl.Hub{}, none, impl.HubBad)
	}
}

func TestBadHubIsRefused(t *testing.T) {
	for name, h := range badHubs() {
		t.Run(name, func(t *testing.T) { expectBadHub(t, h) })
	}
}

// A channel that is not good is seen at the first place, in the midst and at the last, whatever the others are.
func TestBadChansInAHub(t *testing.T) {
	for name, c := range badChans() {
		if len(c.Buffer)+len(c.Senders)+len(c.Receivers) > 1000 {
			continue
		}
		t.Run(name, func(t *testing.T) {
			expectBadHub(t, hub(c))
			expectBadHub(t, hub(buffered(0), c, buffered(1)))
			h := hub(manyChans(8)...)
			h.Chans[7] = c
			expectCall(t, impl.GoodHub, in(h), false)
			expectCall(t, impl.SelectOn, in(h, 9, []impl.Case{to(1, 5)}, 0, false), impl.Hub{}, -1, []impl.Woken{}, impl.HubBad)
			expectCall(t, impl.CloseIn, in(h, 0), impl.Hub{}, []impl.Woken{}, impl.HubBad)
			expectCall(t, impl.KillIn, in(h, 9), impl.Hub{}, -1)
		})
	}
}

func goodCaseLists() map[string][]impl.Case {
	return map[string][]impl.Case{
		"no case":                        {},
		"one":                            {from(0)},
		"MaxCases":                       {from(0), from(0), from(0), from(0), from(0), from(0)},
		"MaxCases of all kinds":          {from(0), to(1, 3), from(2), to(1, 4), from(-1), to(-1, 5)},
		"no channel":                     {from(-1)},
		"no channel, to send":            {to(-1, 7)},
		"no channel, on both sides":      {from(-1), to(-1, 7), from(-1)},
		"the last channel":               {from(2)},
		"the last channel, to send":      {to(2, 0)},
		"one channel several times":      {from(1), from(1), from(1)},
		"one channel several times sent": {to(1, 3), to(1, 3), to(1, 4)},
		"any values":                     {to(0, math.MinInt), to(1, math.MaxInt), to(2, 0), to(0, -1)},
	}
}

func badCaseLists() map[string][]impl.Case {
	return map[string][]impl.Case{
		"one more than MaxCases":            {from(0), from(0), from(0), from(0), from(0), from(0), from(0)},
		"one more, no channel":              slices.Repeat([]impl.Case{from(-1)}, 7),
		"a hundred thousand":                slices.Repeat([]impl.Case{from(-1)}, 100000),
		"beyond the last channel":           {from(3)},
		"beyond the last, to send":          {to(3, 5)},
		"beyond the last, at the end":       {from(0), from(-1), to(1, 5), from(3)},
		"ahead of no channel":               {from(-2)},
		"ahead of no channel, to send":      {to(-2, 5)},
		"ahead of no channel, at the end":   {from(0), from(-1), to(1, 5), to(-2, 4)},
		"the least channel":                 {from(math.MinInt)},
		"the greatest channel":              {to(math.MaxInt, 5)},
		"a value that is not sent":          {{Chan: 0, Value: 1}},
		"a value below 0 that is not sent":  {{Chan: 2, Value: -1}},
		"a value for no channel":            {{Chan: -1, Value: 1}},
		"the least value that is not sent":  {{Chan: 0, Value: math.MinInt}},
		"the last value is not sent":        {to(1, 4), from(0), {Chan: 2, Value: math.MaxInt}},
		"both sides":                        {from(0), to(0, 5)},
		"both sides, the other way round":   {to(2, 5), from(2)},
		"both sides, others between":        {from(-1), to(1, 5), from(0), from(2), to(-1, 3), from(1)},
		"both sides of the second kind too": {from(0), to(1, 5), from(0), to(0, 0)},
	}
}

// threeHub has a channel of each kind at which a case may wait, be ready, or meet what is closed.
func threeHub() impl.Hub {
	return hub(buffered(1, 9), receiving(0, by(7, 2, 0), by(8, 3, 0)), closed(2, 6))
}

func TestGoodCases(t *testing.T) {
	for name, l := range goodCaseLists() {
		t.Run(name, func(t *testing.T) {
			expectCall(t, impl.GoodCases, in(threeHub(), l), true)
			expectCall(t, impl.GoodCases, in(hub(buffered(0), buffered(0), buffered(0)), l), true)
		})
	}
	for name, l := range badCaseLists() {
		t.Run(name, func(t *testing.T) { expectCall(t, impl.GoodCases, in(threeHub(), l), false) })
	}
	last := []impl.Case{from(7)}
	expectCall(t, impl.GoodCases, in(hub(manyChans(8)...), last), true)
	expectCall(t, impl.GoodCases, in(hub(manyChans(7)...), last), false)
	expectCall(t, impl.GoodCases, in(impl.Hub{}, []impl.Case{from(-1), to(-1, 3)}), true)
	expectCall(t, impl.GoodCases, in(impl.Hub{}, []impl.Case{from(0)}), false)
	expectCall(t, impl.GoodCases, in(impl.Hub{}, []impl.Case{}), true)
}

// HubBad comes ahead of all other codes: also where the task waits already, or there would be something else.
func TestBadCasesAreRefused(t *testing.T) {
	for name, l := range badCaseLists() {
		t.Run(name, func(t *testing.T) {
			expectCall(t, impl.ReadyCases, in(threeHub(), l), []int{}, false)
			for _, task := range []int{0, 7, 29, 30} {
				expectCall(t, impl.SelectOn, in(threeHub(), task, l, 0, false), impl.Hub{}, -1, []impl.Woken{}, impl.HubBad)
				expectCall(t, impl.SelectOn, in(threeHub(), task, l, -5, true), impl.Hub{}, -1, []impl.Woken{}, impl.HubBad)
			}
		})
	}
}

func TestBadTaskIsRefused(t *testing.T) {
	for name, h := range goodHubs() {
		t.Run(name, func(t *testing.T) {
			for _, task := range strangeTasks {
				expectCall(t, impl.WaitingCases, in(h, task), []int{}, false)
				expectCall(t, impl.KillIn, in(h, task), impl.Hub{}, -1)
				expectCall(t, impl.SelectOn, in(h, task, []impl.Case{from(-1)}, 0, true), impl.Hub{}, -1, []impl.Woken{}, impl.HubBad)
				expectCall(t, impl.SelectOn, in(h, task, []impl.Case{}, 0, false), impl.Hub{}, -1, []impl.Woken{}, impl.HubBad)
			}
		})
	}
}

func TestReadyCases(t *testing.T) {
	h := hub(buffered(0), buffered(2, 7), closed(1), sending([]int{4}, by(1, 1, 1)), receiving(2, by(2, 2, 0)), buffered(1), buffered(1, 3))
	for _, c := range []struct {
		name  string
		cases []impl.Case
		want  []int
	}{
		{"no case", nil, nil},
		{"no channel", []impl.Case{from(-1), to(-1, 5)}, nil},
		{"nobody there", []impl.Case{from(0)}, nil},
		{"nobody there, to send", []impl.Case{to(0, 5)}, nil},
		{"room and something", []impl.Case{from(1)}, []int{0}},
		{"room and something, to send", []impl.Case{to(1, 5)}, []int{0}},
		{"closed", []impl.Case{from(2)}, []int{0}},
		{"closed, to send", []impl.Case{to(2, 5)}, []int{0}},
		{"a sender waits", []impl.Case{from(3)}, []int{0}},
		{"a sender waits, to send", []impl.Case{to(3, 5)}, nil},
		{"a receiver waits", []impl.Case{from(4)}, nil},
		{"a receiver waits, to send", []impl.Case{to(4, 5)}, []int{0}},
		{"empty with room", []impl.Case{from(5)}, nil},
		{"empty with room, to send", []impl.Case{to(5, 5)}, []int{0}},
		{"full", []impl.Case{from(6)}, []int{0}},
		{"full, to send", []impl.Case{to(6, 5)}, nil},
		{"several times", []impl.Case{from(1), from(0), from(1), from(-1), from(1)}, []int{0, 2, 4}},
		{"all of them", []impl.Case{to(1, 1), to(2, 2), from(3), to(4, 4), to(5, 5), from(6)}, []int{0, 1, 2, 3, 4, 5}},
		{"the last one alone", []impl.Case{from(-1), to(0, 1), to(3, 1), from(4), from(5), from(2)}, []int{5}},
	} {
		t.Run(c.name, func(t *testing.T) { expectCall(t, impl.ReadyCases, in(h, c.cases), c.want, true) })
	}
	expectCall(t, impl.ReadyCases, in(impl.Hub{}, []impl.Case{from(-1)}), []int{}, true)
}

func TestWaitingCases(t *testing.T) {
	h := hub(receiving(0, by(1, 9, 0), by(2, 0, 0), by(1, 4, 0)), buffered(1, 5), sending(nil, by(1, 0, 7), by(29, 5, 7), by(0, 5, 7)), receiving(3, by(1, 2, 0)))
	for task, want := range map[int][]int{0: {5}, 1: {0, 2, 4, 9}, 2: {0}, 3: {}, 28: {}, 29: {5}} {
		expectCall(t, impl.WaitingCases, in(h, task), want, true)
	}
	for task := range 30 {
		expectCall(t, impl.WaitingCases, in(fullHub(), task), countUp(0, 10), true)
		expectCall(t, impl.WaitingCases, in(impl.Hub{}, task), []int{}, true)
	}
}

type selectCall struct {
	name   string
	on     impl.Hub
	task   int
	cases  []impl.Case
	draw   int
	orElse bool
	next   impl.Hub
	number int
	woken  []impl.Woken
	code   int
}

func expectSelects(t *testing.T, calls []selectCall) {
	t.Helper()
	for _, c := range calls {
		t.Run(c.name, func(t *testing.T) {
			expectCall(t, impl.SelectOn, in(c.on, c.task, c.cases, c.draw, c.orElse), c.next, c.number, c.woken, c.code)
		})
	}
}

func TestSelectOnThatIsDone(t *testing.T) {
	expectSelects(t, []selectCall{
		{"sent into room", hub(buffered(2, 7)), 3, []impl.Case{to(0, 5)}, 0, false,
			hub(buffered(2, 7, 5)), 0, nil, impl.HubDone},
		{"sent to the first receiver", hub(receiving(1, by(6, 7, 0), by(5, 0, 0))), 3, []impl.Case{from(-1), to(0, 5)}, 0, false,
			hub(receiving(1, by(5, 0, 0))), 1, []impl.Woken{gets(6, 7, 5)}, impl.HubDone},
		{"received from Buffer", hub(buffered(3, 7, 8)), 3, []impl.Case{from(0)}, 0, false,
			hub(buffered(3, 8)), 0, []impl.Woken{gets(3, 0, 7)}, impl.HubDone},
		{"received from Buffer, a sender behind", hub(sending([]int{7}, by(4, 1, 6), by(5, 2, 9))), 3, []impl.Case{from(-1), from(-1), from(0)}, 0, false,
			hub(sending([]int{6}, by(5, 2, 9))), 2, []impl.Woken{gets(3, 2, 7), gets(4, 1, 0)}, impl.HubDone},
		{"received from a sender", hub(sending(nil, by(4, 1, 6))), 3, []impl.Case{from(0)}, 0, false,
			hub(buffered(0)), 0, []impl.Woken{gets(3, 0, 6), gets(4, 1, 0)}, impl.HubDone},
		{"received from what is closed", hub(closed(2)), 3, []impl.Case{from(0)}, 0, false,
			hub(closed(2)), 0, []impl.Woken{unserved(3, 0)}, impl.HubDone},
		{"received from what is closed, the last", hub(closed(2, 7)), 3, []impl.Case{from(0)}, 0, false,
			hub(closed(2)), 0, []impl.Woken{gets(3, 0, 7)}, impl.HubDone},
		{"orElse, but one is ready", hub(buffered(0), buffered(1)), 3, []impl.Case{from(0), to(1, 5)}, 0, true,
			hub(buffered(0), buffered(1, 5)), 1, nil, impl.HubDone},
		{"the first task", hub(buffered(1, 7)), 0, []impl.Case{from(0)}, 0, false,
			hub(buffered(1)), 0, []impl.Woken{gets(0, 0, 7)}, impl.HubDone},
		{"the last task, the last case, the last channel", hub(append(manyChans(7), buffered(1, 7))...), 29,
			[]impl.Case{from(-1), from(0), from(1), from(2), from(3), from(7)}, 0, false,
			hub(append(manyChans(7), buffered(1))...), 5, []impl.Woken{gets(29, 5, 7)}, impl.HubDone},
		{"a 0 is sent and got", hub(receiving(0, by(0, 0, 0))), 1, []impl.Case{to(0, 0)}, 0, false,
			hub(buffered(0)), 0, []impl.Woken{gets(0, 0, 0)}, impl.HubDone},
		{"the least int is sent", hub(receiving(0, by(0, 0, 0))), 1, []impl.Case{to(0, math.MinInt)}, 0, false,
			hub(buffered(0)), 0, []impl.Woken{gets(0, 0, math.MinInt)}, impl.HubDone},
		{"to one of MaxWaiting", hub(receiving(0, crowd(0, 40)...)), 29, []impl.Case{to(0, 5)}, 0, false,
			hub(receiving(0, crowd(10, 30)...)), 0, []impl.Woken{gets(0, 0, 5)}, impl.HubDone},
		{"from one of MaxWaiting", hub(sending(nil, crowd(0, 40)...)), 29, []impl.Case{from(0)}, 0, false,
			hub(sending(nil, crowd(10, 30)...)), 0, []impl.Woken{gets(29, 0, 0), gets(0, 0, 0)}, impl.HubDone},
	})
}

// Whoever is woken leaves all channels, on both sides, and the one where it is woken at all of its places.
func TestWhoeverIsWokenLeavesAll(t *testing.T) {
	expectSelects(t, []selectCall{
		{"a receiver at many places",
			hub(receiving(0, by(6, 7, 0), by(5, 0, 0), by(6, 8, 0)), sending([]int{4}, by(2, 1, 3), by(6, 1, 2)), receiving(2, by(6, 0, 0)), sending(nil, by(6, 5, 5), by(5, 5, 5))),
			3, []impl.Case{to(0, 5)}, 0, false,
			hub(receiving(0, by(5, 0, 0)), sending([]int{4}, by(2, 1, 3)), buffered(2), sending(nil, by(5, 5, 5))),
			0, []impl.Woken{gets(6, 7, 5)}, impl.HubDone},
		{"a sender at many places, from Buffer",
			hub(receiving(1, by(4, 9, 0), by(8, 9, 0)), sending([]int{7, 8}, by(4, 1, 6), by(4, 2, 9), by(8, 3, 1), by(4, 3, 2)), sending(nil, by(8, 1, 1), by(4, 0, 0))),
			3, []impl.Case{from(1)}, 0, false,
			hub(receiving(1, by(8, 9, 0)), sending([]int{8, 6}, by(8, 3, 1)), sending(nil, by(8, 1, 1))),
			0, []impl.Woken{gets(3, 0, 7), gets(4, 1, 0)}, impl.HubDone},
		{"a sender at many places, no Buffer",
			hub(sending(nil, by(4, 1, 6), by(4, 2, 9)), receiving(1, by(4, 9, 0)), closed(1)),
			3, []impl.Case{from(-1), from(0)}, 7, true,
			hub(buffered(0), buffered(1), closed(1)),
			1, []impl.Woken{gets(3, 1, 6), gets(4, 1, 0)}, impl.HubDone},
		{"nobody is woken, nobody leaves",
			hub(buffered(2, 7), receiving(0, by(4, 9, 0)), sending(nil, by(4, 1, 6))),
			3, []impl.Case{from(0)}, 0, false,
			hub(buffered(2), receiving(0, by(4, 9, 0)), sending(nil, by(4, 1, 6))),
			0, []impl.Woken{gets(3, 0, 7)}, impl.HubDone},
	})
}

func TestSelectOnThatWaits(t *testing.T) {
	expectSelects(t, []selectCall{
		{"no case", hub(buffered(1)), 3, nil, 0, false, hub(buffered(1)), -1, nil, impl.HubWaits},
		{"no case, no channel", impl.Hub{}, 3, nil, 5, false, impl.Hub{}, -1, nil, impl.HubWaits},
		{"no channel in any case", hub(buffered(1)), 3, []impl.Case{from(-1), to(-1, 4)}, 0, false, hub(buffered(1)), -1, nil, impl.HubWaits},
		{"one that receives", hub(buffered(1)), 3, []impl.Case{from(0)}, 0, false, hub(receiving(1, by(3, 0, 0))), -1, nil, impl.HubWaits},
		{"one that sends", hub(buffered(1, 7)), 3, []impl.Case{to(0, 5)}, 0, false, hub(sending([]int{7}, by(3, 0, 5))), -1, nil, impl.HubWaits},
		{"at all channels but -1", hub(buffered(0), buffered(1, 9), receiving(2, by(6, 0, 0))), 3,
			[]impl.Case{from(2), from(-1), to(1, 5), to(0, 6)}, 0, false,
			hub(sending(nil, by(3, 3, 6)), sending([]int{9}, by(3, 2, 5)), receiving(2, by(6, 0, 0), by(3, 0, 0))), -1, nil, impl.HubWaits},
		{"several times at one", hub(receiving(0, by(6, 0, 0)), sending(nil, by(6, 1, 1))), 29,
			[]impl.Case{to(1, 8), from(0), to(1, 7), from(0), to(1, 8), from(0)}, 0, false,
			hub(receiving(0, by(6, 0, 0), by(29, 1, 0), by(29, 3, 0), by(29, 5, 0)), sending(nil, by(6, 1, 1), by(29, 0, 8), by(29, 2, 7), by(29, 4, 8))),
			-1, nil, impl.HubWaits},
		{"the first task", hub(buffered(0)), 0, []impl.Case{from(0)}, 0, false, hub(receiving(0, by(0, 0, 0))), -1, nil, impl.HubWaits},
		{"other channels are ready, but not asked", hub(buffered(1, 7), closed(0), buffered(0)), 3, []impl.Case{to(2, 5)}, 0, false,
			hub(buffered(1, 7), closed(0), sending(nil, by(3, 0, 5))), -1, nil, impl.HubWaits},
	})
}

func TestSelectOnThatFindsNoPlace(t *testing.T) {
	two := []impl.Case{to(1, 4), from(0), from(0)}
	expectSelects(t, []selectCall{
		{"MaxWaiting met exactly", hub(receiving(0, crowd(0, 39)...)), 29, []impl.Case{from(0)}, 0, false,
			hub(receiving(0, append(crowd(0, 39), by(29, 0, 0))...)), -1, nil, impl.HubWaits},
		{"MaxWaiting met exactly, to send", hub(sending(nil, crowd(0, 39)...)), 29, []impl.Case{to(0, 5)}, 0, false,
			hub(sending(nil, append(crowd(0, 39), by(29, 0, 5))...)), -1, nil, impl.HubWaits},
		{"MaxWaiting wait", hub(receiving(0, crowd(0, 40)...)), 29, []impl.Case{from(0)}, 0, false,
			hub(receiving(0, crowd(0, 40)...)), -1, nil, impl.HubFull},
		{"MaxWaiting wait, to send", hub(sending(nil, crowd(0, 40)...)), 29, []impl.Case{to(0, 5)}, 0, false,
			hub(sending(nil, crowd(0, 40)...)), -1, nil, impl.HubFull},
		{"two places are left for two", hub(receiving(0, crowd(0, 38)...), buffered(0)), 29, two, 0, false,
			hub(receiving(0, append(crowd(0, 38), by(29, 1, 0), by(29, 2, 0))...), sending(nil, by(29, 0, 4))), -1, nil, impl.HubWaits},
		{"one place is left for two", hub(receiving(0, crowd(0, 39)...), buffered(0)), 29, two, 0, false,
			hub(receiving(0, crowd(0, 39)...), buffered(0)), -1, nil, impl.HubFull},
		{"the last of several channels", hub(buffered(0), sending([]int{7}, crowd(0, 3)...), receiving(2, crowd(10, 40)...)), 29,
			[]impl.Case{from(0), to(1, 3), from(2)}, 0, false,
			hub(buffered(0), sending([]int{7}, crowd(0, 3)...), receiving(2, crowd(10, 40)...)), -1, nil, impl.HubFull},
		{"the first of several channels", hub(sending(nil, crowd(10, 40)...), buffered(0)), 29, []impl.Case{to(0, 3), from(1)}, 0, false,
			hub(sending(nil, crowd(10, 40)...), buffered(0)), -1, nil, impl.HubFull},
		{"another channel is full, but not asked", hub(sending(nil, crowd(10, 40)...), buffered(0)), 29, []impl.Case{from(1)}, 0, false,
			hub(sending(nil, crowd(10, 40)...), receiving(0, by(29, 0, 0))), -1, nil, impl.HubWaits},
		{"something else comes first", hub(sending(nil, crowd(10, 40)...)), 29, []impl.Case{to(0, 3)}, 0, true,
			hub(sending(nil, crowd(10, 40)...)), -1, nil, impl.HubElse},
		{"but another case is ready", hub(sending(nil, crowd(10, 40)...), buffered(1)), 29, []impl.Case{to(0, 3), to(1, 6)}, 0, false,
			hub(sending(nil, crowd(10, 40)...), buffered(1, 6)), 1, nil, impl.HubDone},
	})
}

func TestSelectOnThatIsRefused(t *testing.T) {
	waits := hub(buffered(1, 7), receiving(0, by(3, 9, 0), by(4, 0, 0)), closed(1), sending(nil, crowd(60, 40)...))
	other := hub(buffered(0), sending([]int{9}, by(3, 0, 5)))
	expectSelects(t, []selectCall{
		{"waits already, one is ready", waits, 3, []impl.Case{from(0)}, 0, false, waits, -1, nil, impl.HubTwice},
		{"waits already, it would serve itself", waits, 3, []impl.Case{to(1, 5)}, 0, false, waits, -1, nil, impl.HubTwice},
		{"waits already, closed", waits, 3, []impl.Case{to(2, 5)}, 0, false, waits, -1, nil, impl.HubTwice},
		{"waits already, else", waits, 3, []impl.Case{from(1)}, 0, true, waits, -1, nil, impl.HubTwice},
		{"waits already, full", waits, 3, []impl.Case{to(3, 5)}, 0, false, waits, -1, nil, impl.HubTwice},
		{"waits already, no case", waits, 3, nil, 0, false, waits, -1, nil, impl.HubTwice},
		{"waits already to send", other, 3, []impl.Case{from(0)}, 0, false, other, -1, nil, impl.HubTwice},
		{"waits already, the first and the last", fullHub(), 0, []impl.Case{from(-1)}, 0, true, fullHub(), -1, nil, impl.HubTwice},
		{"another one waits", other, 4, []impl.Case{from(0)}, 0, true, other, -1, nil, impl.HubElse},
		{"no case, else", waits, 20, nil, 0, true, waits, -1, nil, impl.HubElse},
		{"no channel, else", impl.Hub{}, 20, []impl.Case{from(-1), to(-1, 4)}, 0, true, impl.Hub{}, -1, nil, impl.HubElse},
		{"sent to what is closed", waits, 20, []impl.Case{from(-1), to(2, 5)}, 0, false, waits, -1, nil, impl.HubClosed},
		{"sent to what is closed, else", waits, 20, []impl.Case{to(2, 5)}, 0, true, waits, -1, nil, impl.HubClosed},
		{"sent to what is closed, though another is ready", waits, 20, []impl.Case{from(0), to(2, 5)}, 1, false, waits, -1, nil, impl.HubClosed},
	})
}

func TestTheDrawChooses(t *testing.T) {
	h := hub(buffered(1, 10), buffered(0), buffered(1, 11), buffered(1, 12))
	l := []impl.Case{from(1), from(0), from(-1), from(2), from(3)}
	numbers, values := []int{1, 3, 4}, []int{10, 11, 12}
	// The least int is 1 mod 3, the greatest 1 too, for 2^63 is 2 mod 3.
	for draw, place := range map[int]int{0: 0, 1: 1, 2: 2, 3: 0, 5: 2, -1: 2, -2: 1, -3: 0, -4: 2, 3000001: 1, math.MaxInt: 1, math.MaxInt - 1: 0, math.MinInt: 1, math.MinInt + 1: 2} {
		next := cloneHub(h)
		next.Chans[l[numbers[place]].Chan].Buffer = nil
		expectCall(t, impl.SelectOn, in(h, 5, l, draw, draw%2 == 0), next, numbers[place], []impl.Woken{gets(5, numbers[place], values[place])}, impl.HubDone)
	}
	// One of a kind is chosen by any draw.
	for _, draw := range []int{math.MinInt, -1, 0, 1, math.MaxInt} {
		expectCall(t, impl.SelectOn, in(hub(buffered(1)), 5, []impl.Case{to(0, 3)}, draw, false), hub(buffered(1, 3)), 0, []impl.Woken{}, impl.HubDone)
	}
}

func TestCloseIn(t *testing.T) {
	many := hub(
		receiving(2, by(6, 0, 0), by(5, 0, 0), by(6, 4, 0), by(5, 1, 0), by(7, 2, 0)),
		sending(nil, by(6, 1, 1), by(8, 0, 8), by(5, 9, 9)),
		receiving(1, by(6, 2, 0), by(9, 0, 0)),
		buffered(1, 4))
	sends := hub(receiving(0, by(3, 3, 0), by(4, 3, 0)), sending([]int{7, 8}, by(3, 2, 9), by(3, 1, 8), by(2, 2, 2), by(3, 0, 7)))
	for _, c := range []struct {
		name  string
		on    impl.Hub
		k     int
		next  impl.Hub
		woken []impl.Woken
		code  int
	}{
		{"nobody there", hub(buffered(0)), 0, hub(closed(0)), nil, impl.HubDone},
		{"something in it", hub(buffered(0), buffered(3, 4, 5)), 1, hub(buffered(0), closed(3, 4, 5)), nil, impl.HubDone},
		{"receivers, at several places and channels", many, 0,
			hub(closed(2), sending(nil, by(8, 0, 8)), receiving(1, by(9, 0, 0)), buffered(1, 4)),
			[]impl.Woken{unserved(6, 0), unserved(5, 0), unserved(7, 2)}, impl.HubDone},
		{"senders, at several places and channels", sends, 1,
			hub(receiving(0, by(4, 3, 0)), closed(2, 7, 8)),
			[]impl.Woken{unserved(3, 2), unserved(2, 2)}, impl.HubDone},
		{"the last of MaxChans", hub(append(manyChans(7), sending(nil, by(29, 9, 5)))...), 7, hub(append(manyChans(7), closed(0))...),
			[]impl.Woken{unserved(29, 9)}, impl.HubDone},
		{"MaxWaiting, four tasks", hub(receiving(3, crowd(0, 40)...), receiving(0, crowd(40, 10)...)), 0, hub(closed(3), receiving(0, crowd(40, 10)...)),
			[]impl.Woken{unserved(0, 0), unserved(1, 0), unserved(2, 0), unserved(3, 0)}, impl.HubDone},
		{"closed", hub(closed(0), receiving(0, by(1, 1, 0))), 0, hub(closed(0), receiving(0, by(1, 1, 0))), nil, impl.HubClosed},
		{"closed, something in it", hub(closed(2, 5)), 0, hub(closed(2, 5)), nil, impl.HubClosed},
		{"no channel", impl.Hub{}, 0, impl.Hub{}, nil, impl.HubBad},
		{"ahead of the first", many, -1, impl.Hub{}, nil, impl.HubBad},
		{"behind the last", many, 4, impl.Hub{}, nil, impl.HubBad},
		{"behind the last of MaxChans", hub(manyChans(8)...), 8, impl.Hub{}, nil, impl.HubBad},
		{"the least", many, math.MinInt, impl.Hub{}, nil, impl.HubBad},
		{"the greatest", many, math.MaxInt, impl.Hub{}, nil, impl.HubBad},
	} {
		t.Run(c.name, func(t *testing.T) { expectCall(t, impl.CloseIn, in(c.on, c.k), c.next, c.woken, c.code) })
	}
}

func TestKillIn(t *testing.T) {
	h := hub(receiving(0, by(1, 9, 0), by(2, 0, 0), by(1, 4, 0)), buffered(1, 5), sending([]int{3}, by(1, 0, 7), by(29, 5, 7), by(0, 5, 7)), closed(2, 2))
	expectCall(t, impl.KillIn, in(h, 1), hub(receiving(0, by(2, 0, 0)), buffered(1, 5), sending([]int{3}, by(29, 5, 7), by(0, 5, 7)), closed(2, 2)), 3)
	expectCall(t, impl.KillIn, in(h, 2), hub(receiving(0, by(1, 9, 0), by(1, 4, 0)), buffered(1, 5), h.Chans[2], closed(2, 2)), 1)
	expectCall(t, impl.KillIn, in(h, 0), hub(h.Chans[0], buffered(1, 5), sending([]int{3}, by(1, 0, 7), by(29, 5, 7)), closed(2, 2)), 1)
	expectCall(t, impl.KillIn, in(h, 29), hub(h.Chans[0], buffered(1, 5), sending([]int{3}, by(1, 0, 7), by(0, 5, 7)), closed(2, 2)), 1)
	for _, task := range []int{3, 28} {
		expectCall(t, impl.KillIn, in(h, task), h, 0)
		expectCall(t, impl.KillIn, in(impl.Hub{}, task), impl.Hub{}, 0)
	}
	left := fullHub()
	for task := range 30 {
		next, _ := modelKillIn(left, task)
		expectCall(t, impl.KillIn, in(left, task), next, 10)
		left = next
	}
}

// expectHubModel asks every function of the chapter.
func expectHubModel(t *testing.T, h impl.Hub, task int, l []impl.Case, draw int, orElse bool) {
	t.Helper()
	expectCall(t, impl.GoodHub, in(h), modelGoodHub(h))
	expectCall(t, impl.GoodCases, in(h, l), modelGoodCases(h, l))
	ready, ok := modelReadyCases(h, l)
	expectCall(t, impl.ReadyCases, in(h, l), ready, ok)
	numbers, ok := modelWaitingCases(h, task)
	expectCall(t, impl.WaitingCases, in(h, task), numbers, ok)
	left, often := modelKillIn(h, task)
	expectCall(t, impl.KillIn, in(h, task), left, often)
	for _, k := range []int{draw, 0, len(h.Chans) - 1} {
		over, woken, code := modelCloseIn(h, k)
		expectCall(t, impl.CloseIn, in(h, k), over, woken, code)
	}
	next, number, woken, code := modelSelectOn(h, task, l, draw, orElse)
	expectCall(t, impl.SelectOn, in(h, task, l, draw, orElse), next, number, woken, code)
}

func TestTheHubTablesAgainstTheModel(t *testing.T) {
	lists := listsOf([]impl.Case{from(-1), from(0), to(0, 5), from(1), to(2, 4)}, 2)
	for name, h := range goodHubs() {
		t.Run(name, func(t *testing.T) {
			for k, l := range lists {
				expectHubModel(t, h, k%30, l, k-9, k%3 == 0)
			}
		})
	}
}

func sameWaiting(a, b impl.Chan) bool {
	return slices.Equal(a.Senders, b.Senders) && slices.Equal(a.Receivers, b.Receivers)
}

func sameHub(a, b impl.Hub) bool {
	return slices.EqualFunc(a.Chans, b.Chans, func(a, b impl.Chan) bool {
		return a.Cap == b.Cap && a.Closed == b.Closed && slices.Equal(a.Buffer, b.Buffer) && sameWaiting(a, b)
	})
}

// smallChans are all with Cap 0 or 1 and at most two that wait, of few tasks and cases.
func smallChans() []impl.Chan {
	list := []impl.Chan{buffered(0), buffered(1), buffered(1, 5), closed(0), closed(1), closed(1, 5)}
	for _, waiting := range listsOf([]impl.Waiter{by(0, 0, 0), by(0, 1, 0), by(1, 0, 0)}, 2)[1:] {
		list = append(list, sending(nil, waiting...), sending([]int{5}, waiting...), receiving(0, waiting...), receiving(1, waiting...))
	}
	return list
}

// expectSelect and expectClose are for many calls: their memory is not guarded.
func expectSelect(t *testing.T, h impl.Hub, task int, l []impl.Case, draw int, orElse bool) int {
	t.Helper()
	next, number, woken, code := impl.SelectOn(h, task, l, draw, orElse)
	wants, wantNumber, told, wanted := modelSelectOn(h, task, l, draw, orElse)
	if code != wanted || number != wantNumber || !sameHub(next, wants) || !slices.Equal(woken, told) {
		t.Fatalf("SelectOn of %+v, %d, %+v, %d, %v: %+v, %d, %+v, %d", h, task, l, draw, orElse, next, number, woken, code)
	}
	return code
}

func expectClose(t *testing.T, h impl.Hub, k int) {
	t.Helper()
	next, woken, code := impl.CloseIn(h, k)
	wants, told, wanted := modelCloseIn(h, k)
	if code != wanted || !sameHub(next, wants) || !slices.Equal(woken, told) {
		t.Fatalf("CloseIn of %+v, %d: %+v, %+v, %d", h, k, next, woken, code)
	}
}

func expectMet(t *testing.T, codes map[int]int, least int, all ...int) {
	t.Helper()
	for _, code := range all {
		if codes[code] < least {
			t.Error("code", code, "was met too seldom:", codes)
		}
	}
}

func TestAllSmallHubs(t *testing.T) {
	lists := listsOf([]impl.Case{from(-1), from(0), to(0, 7), from(1), to(1, 8)}, 2)
	met, codes := 0, map[int]int{}
	for _, first := range smallChans() {
		for _, second := range smallChans() {
			h := hub(first, second)
			if impl.GoodHub(h) != modelGoodHub(h) {
				t.Fatalf("GoodHub of %+v: %v", h, impl.GoodHub(h))
			}
			if !modelGoodHub(h) {
				continue
			}
			met++
			expectClose(t, h, 0)
			expectClose(t, h, 1)
			for k, l := range lists {
				codes[expectSelect(t, h, 0, l, k, k%4 == 0)]++
				codes[expectSelect(t, h, 2, l, k, k%4 == 0)]++
			}
		}
	}
	// 252 where nobody waits at the first, 264 where one does, and 240 where two do.
	if met != 756 {
		t.Error("not all good hubs were met:", met)
	}
	expectMet(t, codes, 100, impl.HubDone, impl.HubWaits, impl.HubBad, impl.HubClosed, impl.HubElse, impl.HubTwice)
}

// Promise 14: hubs and cases of any numbers.
func TestAnyHubIsAnswered(t *testing.T) {
	r := turns(414)
	for range 400 {
		var h impl.Hub
		for range r.next(10) {
			c := impl.Chan{Cap: r.next(3), Closed: r.next(6) == 0}
			if r.next(9) == 0 {
				c.Cap = r.anyInt()
			}
			c.Buffer = r.anyValues(r.next(2) * r.next(4))
			for range r.next(8) / 6 {
				c.Senders = append(c.Senders, by(r.anyInt(), r.anyInt(), r.anyInt()))
			}
			for range r.next(8) / 6 {
				c.Receivers = append(c.Receivers, by(r.anyInt(), r.anyInt(), 0))
			}
			h.Chans = append(h.Chans, c)
		}
		var l []impl.Case
		for range r.next(9) {
			l = append(l, impl.Case{Chan: r.anyInt() - 1, Send: r.next(2) == 0, Value: r.anyInt()})
		}
		expectHubModel(t, h, r.anyInt(), l, r.anyInt(), r.next(2) == 0)
	}
}

// anyGoodHub deals the cases of so many tasks to channels of every kind; the other tasks wait nowhere.
func (r *turns) anyGoodHub(tasks int) impl.Hub {
	deck := crowd(0, 10*tasks)
	for k := range deck {
		other := k + r.next(len(deck)-k)
		deck[k], deck[other] = deck[other], deck[k]
	}
	var h impl.Hub
	for range 1 + r.next(8) {
		c := r.anyGoodChan()
		sends := min(len(c.Senders), len(deck))
		c.Senders = slices.Clone(deck[:sends])
		deck = deck[sends:]
		gets := min(len(c.Receivers), len(deck))
		c.Receivers = slices.Clone(deck[:gets])
		deck = deck[gets:]
		for k := range c.Senders {
			c.Senders[k].Value = r.wideInt()
		}
		h.Chans = append(h.Chans, c)
	}
	return h
}

// anyGoodCases asks each channel on one side alone; likes is how many of a hundred take the side that waits more often.
func (r *turns) anyGoodCases(h impl.Hub, likes int) []impl.Case {
	sends := make([]bool, len(h.Chans))
	for k, c := range h.Chans {
		sends[k] = (len(c.Senders) > 0 || len(c.Buffer) == c.Cap) == (r.next(100) < likes)
	}
	var l []impl.Case
	for range r.next(7) {
		k := r.next(len(h.Chans)+1) - 1
		if k < 0 && r.next(2) == 0 || k >= 0 && sends[k] {
			l = append(l, to(k, r.wideInt()))
		} else {
			l = append(l, from(k))
		}
	}
	return l
}

func TestManyGoodHubs(t *testing.T) {
	r := turns(44)
	codes := map[int]int{}
	for k := range 8000 {
		h := r.anyGoodHub([]int{1, 3, 5, 8, 16, 30}[r.next(6)])
		l := r.anyGoodCases(h, []int{50, 95}[k%2])
		if !impl.GoodHub(h) || !impl.GoodCases(h, l) {
			t.Fatalf("%+v or %+v are not good", h, l)
		}
		task, draw, orElse := 29-r.next(15)*r.next(3), r.wideInt(), r.next(5) == 0
		codes[expectSelect(t, h, task, l, draw, orElse)]++
		expectClose(t, h, r.next(len(h.Chans)))
		if k%20 == 0 {
			expectHubModel(t, h, task, l, draw, orElse)
		}
	}
	expectMet(t, codes, 100, impl.HubDone, impl.HubWaits, impl.HubClosed, impl.HubElse, impl.HubFull, impl.HubTwice)
}
