package tests

import (
	"slices"

	"loop.example/g00145/impl"
)

// The chapter said a second time, plainly, for comparison over many hubs: all that stand in a hub are one list, each with its
// channel and its side, and whoever is woken is taken out of that list.

type standing struct {
	channel int
	sends   bool
	who     impl.Waiter
}

func modelStandings(h impl.Hub) []standing {
	var all []standing
	for k, c := range h.Chans {
		for _, w := range c.Senders {
			all = append(all, standing{k, true, w})
		}
		for _, w := range c.Receivers {
			all = append(all, standing{k, false, w})
		}
	}
	return all
}

func modelGoodHub(h impl.Hub) bool {
	if len(h.Chans) > 8 || slices.ContainsFunc(h.Chans, func(c impl.Chan) bool { return !modelGoodChan(c) }) {
		return false
	}
	all := modelStandings(h)
	for k, a := range all {
		for _, b := range all[:k] {
			if a.who.Task == b.who.Task && (a.who.Case == b.who.Case || a.channel == b.channel && a.sends != b.sends) {
				return false
			}
		}
	}
	return true
}

func modelGoodCases(h impl.Hub, l []impl.Case) bool {
	if !modelGoodHub(h) || len(l) > 6 {
		return false
	}
	sent, received := map[int]int{}, map[int]int{}
	for _, c := range l {
		switch {
		case c.Chan < -1, c.Chan >= len(h.Chans), !c.Send && c.Value != 0:
			return false
		case c.Send:
			sent[c.Chan]++
		default:
			received[c.Chan]++
		}
	}
	for k := range h.Chans {
		if sent[k] > 0 && received[k] > 0 {
			return false
		}
	}
	return true
}

func modelReadyCases(h impl.Hub, l []impl.Case) ([]int, bool) {
	if !modelGoodCases(h, l) {
		return nil, false
	}
	var ready []int
	for number, c := range l {
		if c.Chan == -1 {
			continue
		}
		may := modelMayReceive
		if c.Send {
			may = modelMaySend
		}
		if may(h.Chans[c.Chan]) {
			ready = append(ready, number)
		}
	}
	return ready, true
}

func modelWaitingCases(h impl.Hub, task int) ([]int, bool) {
	if !modelGoodHub(h) || task < 0 || task > 29 {
		return nil, false
	}
	var numbers []int
	for number := range 10 {
		if slices.ContainsFunc(modelStandings(h), func(s standing) bool { return s.who.Task == task && s.who.Case == number }) {
			numbers = append(numbers, number)
		}
	}
	return numbers, true
}

func cloneHub(h impl.Hub) impl.Hub {
	var chans []impl.Chan
	for _, c := range h.Chans {
		c.Buffer, c.Senders, c.Receivers = slices.Clone(c.Buffer), slices.Clone(c.Senders), slices.Clone(c.Receivers)
		chans = append(chans, c)
	}
	return impl.Hub{Chans: chans}
}

func modelKillIn(h impl.Hub, task int) (impl.Hub, int) {
	if !modelGoodHub(h) || task < 0 || task > 29 {
		return impl.Hub{}, -1
	}
	h = cloneHub(h)
	often := 0
	for k := range h.Chans {
		left, many := modelLeaveChan(h.Chans[k], task)
		h.Chans[k], often = left, often+many
	}
	return h, often
}

// modelWakeIn lets each that is woken leave, one after the other; whoever is told already is not told again.
func modelWakeIn(h impl.Hub, woken []impl.Woken) (impl.Hub, []impl.Woken) {
	var told []impl.Woken
	for _, w := range woken {
		if !slices.ContainsFunc(told, func(o impl.Woken) bool { return o.Task == w.Task }) {
			told = append(told, w)
		}
		h, _ = modelKillIn(h, w.Task)
	}
	return h, told
}

func modelCloseIn(h impl.Hub, k int) (impl.Hub, []impl.Woken, int) {
	switch {
	case !modelGoodHub(h) || k < 0 || k >= len(h.Chans):
		return impl.Hub{}, nil, impl.HubBad
	case h.Chans[k].Closed:
		return h, nil, impl.HubClosed
	}
	h = cloneHub(h)
	over, woken, _ := modelClose(h.Chans[k])
	h.Chans[k] = over
	h, told := modelWakeIn(h, woken)
	return h, told, impl.HubDone
}

func modelSelectOn(h impl.Hub, task int, l []impl.Case, draw int, orElse bool) (impl.Hub, int, []impl.Woken, int) {
	if !modelGoodCases(h, l) || task < 0 || task > 29 {
		return impl.Hub{}, -1, nil, impl.HubBad
	}
	if numbers, _ := modelWaitingCases(h, task); len(numbers) > 0 {
		return h, -1, nil, impl.HubTwice
	}
	ready, _ := modelReadyCases(h, l)
	switch {
	case len(ready) > 0:
		return modelDo(h, task, l, ready[((draw%len(ready))+len(ready))%len(ready)])
	case orElse:
		return h, -1, nil, impl.HubElse
	}
	next := cloneHub(h)
	for number, c := range l {
		if c.Chan < 0 {
			continue
		}
		at := &next.Chans[c.Chan]
		w := impl.Waiter{Task: task, Case: number, Value: c.Value}
		if c.Send {
			at.Senders = append(at.Senders, w)
		} else {
			at.Receivers = append(at.Receivers, w)
		}
	}
	for _, c := range next.Chans {
		if len(c.Senders) > 40 || len(c.Receivers) > 40 {
			return h, -1, nil, impl.HubFull
		}
	}
	return next, -1, nil, impl.HubWaits
}

func modelDo(h impl.Hub, task int, l []impl.Case, number int) (impl.Hub, int, []impl.Woken, int) {
	c := l[number]
	act := modelReceive
	if c.Send {
		act = modelSend
	}
	next := cloneHub(h)
	changed, woken, code := act(next.Chans[c.Chan], impl.Waiter{Task: task, Case: number, Value: c.Value})
	if code == impl.ChanClosed {
		return h, -1, nil, impl.HubClosed
	}
	next.Chans[c.Chan] = changed
	next, told := modelWakeIn(next, woken)
	return next, number, told, impl.HubDone
}
