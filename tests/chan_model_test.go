package tests

import (
	"slices"

	"loop.example/g00145/impl"
)

// The chapter said a second time, plainly, for comparison over many channels: all that was sent and not yet received
// stands in one line, of which Buffer is what lies ahead of Cap, and Senders are the rest.

func modelGoodWaiter(w impl.Waiter) bool {
	return 0 <= w.Task && w.Task <= 29 && 0 <= w.Case && w.Case <= 9
}

func modelGoodWaiters(waiting []impl.Waiter) bool {
	return len(waiting) <= 40 && !slices.ContainsFunc(waiting, func(w impl.Waiter) bool { return !modelGoodWaiter(w) })
}

func modelGoodChan(c impl.Chan) bool {
	buffered, sending, receiving := len(c.Buffer), len(c.Senders), len(c.Receivers)
	switch {
	case c.Cap < 0, c.Cap > 10, buffered > c.Cap:
		return false
	case !modelGoodWaiters(c.Senders), !modelGoodWaiters(c.Receivers):
		return false
	case slices.ContainsFunc(c.Receivers, func(w impl.Waiter) bool { return w.Value != 0 }):
		return false
	case sending > 0 && buffered != c.Cap, sending > 0 && c.Closed:
		return false
	case receiving > 0 && buffered != 0, receiving > 0 && c.Closed, receiving > 0 && sending > 0:
		return false
	}
	return true
}

// modelLine gives what is buffered a waiter too, for whoever sent it is not known any more.
func modelLine(c impl.Chan) []impl.Waiter {
	var line []impl.Waiter
	for _, value := range c.Buffer {
		line = append(line, impl.Waiter{Value: value})
	}
	return append(line, c.Senders...)
}

func modelOfLine(c impl.Chan, line []impl.Waiter) impl.Chan {
	made := impl.Chan{Cap: c.Cap, Closed: c.Closed, Receivers: slices.Clone(c.Receivers)}
	for place, w := range line {
		if place < c.Cap {
			made.Buffer = append(made.Buffer, w.Value)
		} else {
			made.Senders = append(made.Senders, w)
		}
	}
	return made
}

func modelSend(c impl.Chan, w impl.Waiter) (impl.Chan, []impl.Woken, int) {
	line := modelLine(c)
	switch {
	case !modelGoodChan(c) || !modelGoodWaiter(w):
		return impl.Chan{}, nil, impl.ChanBad
	case c.Closed:
		return c, nil, impl.ChanClosed
	case len(c.Receivers) > 0:
		gets := c.Receivers[0]
		c.Receivers = c.Receivers[1:]
		return modelOfLine(c, line), []impl.Woken{{Task: gets.Task, Case: gets.Case, Value: w.Value, Ok: true}}, impl.ChanDone
	case len(line) == c.Cap+40:
		return c, nil, impl.ChanFull
	case len(line) >= c.Cap:
		return modelOfLine(c, append(line, w)), nil, impl.ChanWaits
	}
	return modelOfLine(c, append(line, w)), nil, impl.ChanDone
}

func modelReceive(c impl.Chan, w impl.Waiter) (impl.Chan, []impl.Woken, int) {
	line := modelLine(c)
	switch {
	case !modelGoodChan(c) || !modelGoodWaiter(w) || w.Value != 0:
		return impl.Chan{}, nil, impl.ChanBad
	case len(line) > 0:
		woken := []impl.Woken{{Task: w.Task, Case: w.Case, Value: line[0].Value, Ok: true}}
		// Whoever stands just behind Buffer waits no more: all go one place ahead.
		if len(line) > c.Cap {
			woken = append(woken, impl.Woken{Task: line[c.Cap].Task, Case: line[c.Cap].Case, Ok: true})
		}
		return modelOfLine(c, line[1:]), woken, impl.ChanDone
	case c.Closed:
		return c, []impl.Woken{{Task: w.Task, Case: w.Case}}, impl.ChanDone
	case len(c.Receivers) == 40:
		return c, nil, impl.ChanFull
	}
	c.Receivers = append(slices.Clone(c.Receivers), w)
	return c, nil, impl.ChanWaits
}

func modelClose(c impl.Chan) (impl.Chan, []impl.Woken, int) {
	switch {
	case !modelGoodChan(c):
		return impl.Chan{}, nil, impl.ChanBad
	case c.Closed:
		return c, nil, impl.ChanClosed
	}
	var woken []impl.Woken
	for _, w := range slices.Concat(c.Receivers, c.Senders) {
		woken = append(woken, impl.Woken{Task: w.Task, Case: w.Case})
	}
	return impl.Chan{Cap: c.Cap, Closed: true, Buffer: c.Buffer}, woken, impl.ChanDone
}

func modelLeaveChan(c impl.Chan, task int) (impl.Chan, int) {
	if !modelGoodChan(c) || task < 0 || task > 29 {
		return impl.Chan{}, -1
	}
	left := func(w impl.Waiter) bool { return w.Task == task }
	many := len(c.Senders) + len(c.Receivers)
	c.Senders = slices.DeleteFunc(slices.Clone(c.Senders), left)
	c.Receivers = slices.DeleteFunc(slices.Clone(c.Receivers), left)
	return c, many - len(c.Senders) - len(c.Receivers)
}

// modelMaySend and modelMayReceive ask what would become of it, not what the channel holds.
func modelMaySend(c impl.Chan) bool {
	_, _, code := modelSend(c, impl.Waiter{})
	return code == impl.ChanDone || code == impl.ChanClosed
}

func modelMayReceive(c impl.Chan) bool {
	_, _, code := modelReceive(c, impl.Waiter{})
	return code == impl.ChanDone
}
