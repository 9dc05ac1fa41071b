package tests

import (
	"slices"
	"testing"

	"loop.example/g00145/impl"
)

// desk is the plain telling of promise 6: all letters that were put and are not done with, in the order in which they were put.
// Those that are held are always the first of them: letters are taken in that order, and given back ahead of the others.
// Each letter's Value is the number of its putting, so that one letter is not taken for another with its id.
type desk struct {
	size  int
	shut  bool
	words []int
	open  []impl.Letter
	held  int
	puts  int
	ended []int
}

func (d *desk) place(id int) int {
	return slices.IndexFunc(d.open, func(l impl.Letter) bool { return l.Id == id })
}

func (d *desk) put(t *testing.T, b impl.Box, id int) (impl.Box, int) {
	t.Helper()
	next, code := impl.PutLetter(b, id, d.puts)
	wants := impl.BoxOk
	switch {
	case d.shut:
		wants = impl.BoxClosed
	case d.place(id) >= 0:
		wants = impl.BoxHeld
	case len(d.open) == d.size:
		wants = impl.BoxFull
	default:
		d.open = append(d.open, letter(id, d.puts, 0))
		d.puts++
	}
	if code != wants {
		t.Fatalf("%d into %+v: code %d, not %d", id, b, code, wants)
	}
	return next, code
}

func (d *desk) say(t *testing.T, b impl.Box, word int) (impl.Box, int) {
	t.Helper()
	next, code := impl.PutSystem(b, word)
	wants := impl.BoxFull
	if len(d.words) < 30 {
		d.words = append(d.words, word)
		wants = impl.BoxOk
	}
	if code != wants {
		t.Fatalf("the word %d into %+v: code %d, not %d", word, b, code, wants)
	}
	return next, code
}

func (d *desk) take(t *testing.T, b impl.Box) (impl.Box, int) {
	t.Helper()
	next, word, first, code := impl.TakeNext(b)
	wants, wantsWord, wantsLetter := impl.BoxOk, 0, impl.Letter{}
	switch {
	case len(d.words) > 0:
		wantsWord, d.words = d.words[0], d.words[1:]
	case d.held == len(d.open):
		wants = impl.BoxNone
	default:
		d.open[d.held].Tries = min(d.open[d.held].Tries+1, 1000)
		wantsLetter = d.open[d.held]
		d.held++
	}
	if code != wants || word != wantsWord || first != wantsLetter {
		t.Fatalf("next of %+v: %d, %+v, %d, not %d, %+v, %d", b, word, first, code, wantsWord, wantsLetter, wants)
	}
	return next, code
}

func (d *desk) done(t *testing.T, b impl.Box, id int) (impl.Box, int) {
	t.Helper()
	next, code := impl.DoneWith(b, id)
	wants := impl.BoxNone
	if place := d.place(id); place >= 0 && place < d.held {
		d.ended = append(d.ended, d.open[place].Value)
		d.open = slices.Delete(slices.Clone(d.open), place, place+1)
		d.held--
		wants = impl.BoxOk
	}
	if code != wants {
		t.Fatalf("done with %d of %+v: code %d, not %d", id, b, code, wants)
	}
	return next, code
}

func (d *desk) giveBack(t *testing.T, b impl.Box) (impl.Box, int) {
	t.Helper()
	next, code := impl.GiveBackLetters(b)
	if code != impl.BoxOk {
		t.Fatalf("%+v: code %d", b, code)
	}
	d.held = 0
	return next, code
}

func (d *desk) close(t *testing.T, b impl.Box) (impl.Box, int) {
	t.Helper()
	next, code := impl.CloseBox(b)
	if (code == impl.BoxClosed) != d.shut || (code == impl.BoxOk) == d.shut {
		t.Fatalf("%+v: code %d", b, code)
	}
	d.shut = true
	return next, code
}

// expectBox: what was put and not done with stands in the box, once; LettersIn tells the same.
func (d *desk) expectBox(t *testing.T, b impl.Box) {
	t.Helper()
	want := impl.Box{Cap: d.size, Closed: d.shut, System: d.words, Letters: d.open[d.held:], Held: d.open[:d.held]}
	if !impl.GoodBox(b) || !sameValues([]any{b}, []any{want}) {
		t.Fatalf("%+v, not %+v", b, want)
	}
	ids, ok := impl.LettersIn(b)
	if !ok || !slices.Equal(ids, append(modelIds(d.open[d.held:]), modelIds(d.open[:d.held])...)) {
		t.Fatalf("%+v: %v, %v", b, ids, ok)
	}
}

// expectAllOnce: each letter that was put either is done with or stands in the box, in one place and once.
func (d *desk) expectAllOnce(t *testing.T, b impl.Box) {
	t.Helper()
	var numbers []int
	for _, l := range slices.Concat(b.Letters, b.Held) {
		numbers = append(numbers, l.Value)
	}
	numbers = append(numbers, d.ended...)
	slices.Sort(numbers)
	if !slices.Equal(numbers, countUp(0, d.puts)) {
		t.Fatalf("of %d puttings there are %v", d.puts, numbers)
	}
}

// drain gives back, takes and is done with, till nothing is left.
func (d *desk) drain(t *testing.T, b impl.Box) {
	t.Helper()
	b, _ = d.giveBack(t, b)
	for code := impl.BoxOk; code == impl.BoxOk; {
		b, code = d.take(t, b)
		for len(b.Held) > 0 {
			b, _ = d.done(t, b, b.Held[0].Id)
		}
		d.expectBox(t, b)
	}
	if len(d.open) > 0 || len(b.Letters)+len(b.Held)+len(b.System) > 0 {
		t.Fatalf("left over: %+v", b)
	}
	d.expectAllOnce(t, b)
}

// Promise 6: letters are neither lost nor doubled.
func TestPromise6(t *testing.T) {
	codes, full, most := map[int]int{}, 0, 0
	for seed := range 120 {
		r, size := turns(seed), []int{1, 2, 5, 12, 29, 30}[seed%6]
		d, b, code := desk{size: size}, impl.Box{Cap: size}, impl.BoxOk
		for step := range 400 {
			id := r.next(2 * size)
			switch draw := r.next(40); {
			case draw < 14:
				b, code = d.put(t, b, id)
			case draw < 18+step%200/20:
				b, code = d.say(t, b, r.next(5)-2)
			case draw < 31:
				b, code = d.take(t, b)
			case draw < 37:
				b, code = d.done(t, b, id)
			case draw < 39 || step < 300:
				b, code = d.giveBack(t, b)
			default:
				b, code = d.close(t, b)
			}
			codes[code]++
			d.expectBox(t, b)
			d.expectAllOnce(t, b)
			if len(d.open) == size && d.held > 0 && d.held < size {
				full++
			}
			most = max(most, len(b.System))
		}
		d.drain(t, b)
	}
	expectMet(t, codes, 50, impl.BoxOk, impl.BoxClosed, impl.BoxFull, impl.BoxNone, impl.BoxHeld)
	if full < 100 || most < 30 {
		t.Error("met too seldom:", full, most)
	}
}

// Promise 6: what is begun again and again stays one letter, and is counted to 1000.
func TestPromise6OfManyTries(t *testing.T) {
	d, b := desk{size: 3}, impl.Box{Cap: 3}
	for id := range 3 {
		b, _ = d.put(t, b, id)
	}
	for step := range 2500 {
		b, _ = d.take(t, b)
		if step%2 == 1 {
			b, _ = d.giveBack(t, b)
		}
		d.expectBox(t, b)
		d.expectAllOnce(t, b)
	}
	if want := []impl.Letter{letter(0, 0, 1000), letter(1, 1, 1000), letter(2, 2, 0)}; !slices.Equal(b.Letters, want) {
		t.Errorf("%+v, not %+v", b.Letters, want)
	}
	d.drain(t, b)
}

// Promise 6: from any good box each call leaves the letters that it has, but for the one that it puts or that is done with.
func TestLettersStay(t *testing.T) {
	r := turns(666)
	for range 3000 {
		b := r.anyGoodBox()
		before := valuesById(b)
		id := r.next(30)
		put, code := impl.PutLetter(b, id, 7)
		after := valuesById(b)
		if code == impl.BoxOk {
			after[id] = 7
		}
		expectLetters(t, b, put, after)
		done, code := impl.DoneWith(b, id)
		after = valuesById(b)
		if code == impl.BoxOk {
			delete(after, id)
		}
		expectLetters(t, b, done, after)
		spoken, _ := impl.PutSystem(b, id)
		taken, _, _, _ := impl.TakeNext(b)
		back, _ := impl.GiveBackLetters(b)
		over, _ := impl.CloseBox(b)
		for _, next := range []impl.Box{spoken, taken, back, over} {
			expectLetters(t, b, next, before)
		}
	}
}

func valuesById(b impl.Box) map[int]int {
	values := map[int]int{}
	for _, l := range modelLetters(b) {
		values[l.Id] = l.Value
	}
	return values
}

func expectLetters(t *testing.T, b, next impl.Box, values map[int]int) {
	t.Helper()
	if !impl.GoodBox(next) || next.Cap != b.Cap || len(modelLetters(next)) != len(values) {
		t.Fatalf("of %+v: %+v", b, next)
	}
	for _, l := range modelLetters(next) {
		if value, there := values[l.Id]; !there || value != l.Value {
			t.Fatalf("of %+v: %+v", b, next)
		}
	}
}
