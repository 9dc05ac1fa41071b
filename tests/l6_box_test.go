package tests

import (
	"maps"
	"math"
	"slices"
	"strconv"
	"testing"

	"loop.example/g00145/impl"
)

func letter(id, value, tries int) impl.Letter {
	return impl.Letter{Id: id, Value: value, Tries: tries}
}

// letters have those ids, each one's Value ten times its Id, and have been tried that often.
func letters(tries int, ids ...int) []impl.Letter {
	var list []impl.Letter
	for _, id := range ids {
		list = append(list, letter(id, 10*id, tries))
	}
	return list
}

func box(size int, lies, held []impl.Letter) impl.Box {
	return impl.Box{Cap: size, Letters: lies, Held: held}
}

func told(b impl.Box, words ...int) impl.Box {
	b.System = words
	return b
}

func shut(b impl.Box) impl.Box {
	b.Closed = true
	return b
}

func TestBoxConstants(t *testing.T) {
	got := []int{impl.MaxLetters, impl.BoxOk, impl.BoxBad, impl.BoxClosed, impl.BoxFull, impl.BoxNone, impl.BoxHeld}
	if want := []int{30, 0, 1, 2, 3, 4, 5}; !slices.Equal(got, want) {
		t.Error(got, want)
	}
}

func goodBoxes() map[string]impl.Box {
	boxes := map[string]impl.Box{
		"the least Cap":                  box(1, nil, nil),
		"the greatest Cap":               box(30, nil, nil),
		"empty lists":                    {Cap: 2, System: []int{}, Letters: []impl.Letter{}, Held: []impl.Letter{}},
		"one word":                       told(box(1, nil, nil), 5),
		"the word 0":                     told(box(1, nil, nil), 0),
		"words alike":                    told(box(1, nil, nil), 5, 5, 5),
		"words at the ends":              told(box(1, nil, nil), math.MinInt, math.MaxInt, -1, 0),
		"one less than MaxLetters words": told(box(1, nil, nil), countUp(0, 29)...),
		"MaxLetters words":               told(box(1, nil, nil), countUp(0, 30)...),
		"MaxLetters words, it is full":   told(box(2, letters(0, 1), letters(1, 2)), countUp(0, 30)...),
		"one of one lies":                box(1, letters(0, 4), nil),
		"one of one is held":             box(1, nil, letters(1, 4)),
		"one of each":                    box(5, letters(0, 4), letters(1, 3)),
		"room for one":                   box(5, letters(0, 5, 6), letters(1, 3, 4)),
		"full":                           box(5, letters(0, 5, 6, 7), letters(1, 3, 4)),
		"full, all lie":                  box(5, letters(0, 3, 4, 5, 6, 7), nil),
		"full, all are held":             box(5, nil, letters(1, 3, 4, 5, 6, 7)),
		"MaxLetters lie":                 box(30, letters(0, countUp(1, 30)...), nil),
		"MaxLetters are held":            box(30, nil, letters(1000, countUp(-30, 30)...)),
		"MaxLetters, half of each":       box(30, letters(0, countUp(0, 15)...), letters(1, countUp(15, 15)...)),
		"one less than MaxLetters":       box(30, letters(0, countUp(0, 28)...), letters(1, 28)),
		"Tries at their ends":            box(6, []impl.Letter{letter(1, 0, 0), letter(2, 0, 1000)}, []impl.Letter{letter(3, 0, 1), letter(4, 0, 1000)}),
		"ids at their ends":              box(6, letters(0, math.MinInt, 0), letters(1, -1, math.MaxInt)),
		"Values alike, at their ends":    box(6, []impl.Letter{letter(1, math.MinInt, 0), letter(2, math.MinInt, 0)}, []impl.Letter{letter(3, math.MaxInt, 5)}),
		"taken again, out of turn":       box(6, letters(3, 9, 2), letters(7, 8, 1)),
		"an id as a word":                told(box(3, letters(0, 4), letters(1, 3)), 3, 4),
	}
	for name, b := range maps.Clone(boxes) {
		boxes[name+", closed"] = shut(b)
	}
	return boxes
}

// badLists are bad as Letters and as Held, whatever the Cap: an Id is there twice, or Tries are beyond.
func badLists() map[string][]impl.Letter {
	lists := map[string][]impl.Letter{
		"an id twice":                   letters(1, 4, 4),
		"an id twice, one between":      letters(1, 4, 5, 4),
		"the id 0 twice":                letters(1, 0, 0),
		"the least id twice":            letters(1, math.MinInt, math.MinInt),
		"the greatest id twice":         letters(1, math.MaxInt, 1, math.MaxInt),
		"an id twice, all else differs": {letter(4, 1, 1), letter(4, 2, 2)},
		"twice at the ends of many":     letters(1, append(countUp(0, 29), 0)...),
	}
	for _, tries := range []int{math.MinInt, -1, 1001, math.MaxInt} {
		name := "Tries " + strconv.Itoa(tries)
		lists[name] = letters(tries, 4)
		lists[name+" first"] = []impl.Letter{letter(4, 40, tries), letter(5, 50, 1), letter(6, 60, 1)}
		lists[name+" in the midst"] = []impl.Letter{letter(4, 40, 1), letter(5, 50, tries), letter(6, 60, 1)}
		lists[name+" last of MaxLetters"] = append(letters(1, countUp(0, 29)...), letter(29, 0, tries))
	}
	return lists
}

func badBoxes() map[string]impl.Box {
	boxes := map[string]impl.Box{
		"Cap 0":                             box(0, nil, nil),
		"Cap below 0":                       box(-1, nil, nil),
		"Cap the least int":                 box(math.MinInt, nil, nil),
		"Cap above MaxLetters":              box(31, nil, nil),
		"Cap the greatest int":              box(math.MaxInt, nil, nil),
		"Cap 0, one lies":                   box(0, letters(0, 4), nil),
		"Cap above MaxLetters, one of each": box(31, letters(0, 4), letters(1, 5)),
		"Cap above MaxLetters, it is full":  box(31, letters(0, countUp(0, 31)...), nil),
		"Cap the greatest int, one of each": box(math.MaxInt, letters(0, 4), letters(1, 5)),
		"Cap the least int, one of each":    box(math.MinInt, letters(0, 4), letters(1, 5)),
		"one more than MaxLetters words":    told(box(1, nil, nil), countUp(0, 31)...),
		"words alike, one too many":         told(box(30, nil, nil), slices.Repeat([]int{0}, 31)...),
		"far too many words":                told(box(5, letters(0, 4), letters(1, 5)), slices.Repeat([]int{7}, 2000)...),
		"two lie, Cap 1":                    box(1, letters(0, 4, 5), nil),
		"two are held, Cap 1":               box(1, nil, letters(1, 4, 5)),
		"one of each, Cap 1":                box(1, letters(0, 4), letters(1, 5)),
		"one more than Cap lie":             box(5, letters(0, countUp(0, 6)...), nil),
		"one more than Cap are held":        box(5, nil, letters(1, countUp(0, 6)...)),
		"together one more than Cap":        box(5, letters(0, 1, 2, 3), letters(1, 4, 5, 6)),
		"Cap lie and one is held":           box(5, letters(0, 1, 2, 3, 4, 5), letters(1, 6)),
		"Cap are held and one lies":         box(5, letters(0, 6), letters(1, 1, 2, 3, 4, 5)),
		"one more than MaxLetters lie":      box(30, letters(0, countUp(0, 31)...), nil),
		"one more than MaxLetters held":     box(30, nil, letters(1, countUp(0, 31)...)),
		"together more than MaxLetters":     box(30, letters(0, countUp(0, 15)...), letters(1, countUp(15, 16)...)),
		"far too many letters":              box(30, letters(0, countUp(0, 2000)...), letters(1, countUp(2000, 2000)...)),
		"an id once in each":                box(5, letters(0, 4), letters(1, 4)),
		"an id at the ends of both":         box(9, letters(0, 4, 5, 6), letters(1, 7, 8, 4)),
		"an id where both meet":             box(9, letters(0, 5, 6, 4), letters(1, 4, 7, 8)),
		"the least id once in each":         box(9, letters(0, math.MinInt), letters(1, math.MinInt)),
		"the greatest id once in each":      box(9, letters(0, 1, math.MaxInt), letters(1, 2, math.MaxInt)),
		"an id in each of MaxLetters":       box(30, letters(0, countUp(0, 15)...), letters(1, append(countUp(15, 14), 0)...)),
		"Tries 0 of one held":               box(5, nil, letters(0, 4)),
		"Tries 0 of one held first":         box(5, letters(0, 6), []impl.Letter{letter(4, 40, 0), letter(5, 50, 1)}),
		"Tries 0 of one held last":          box(5, letters(0, 6), []impl.Letter{letter(4, 40, 1000), letter(5, 50, 1), letter(7, 70, 0)}),
	}
	for name, list := range badLists() {
		boxes[name+" in Letters"] = box(30, list, nil)
		boxes[name+" in Held"] = box(30, nil, list)
		if len(list) < 30 {
			boxes[name+" in Letters, one is held"] = box(30, list, letters(1, 99))
			boxes[name+" in Held, one lies"] = box(30, letters(0, 99), list)
		}
	}
	for name, b := range maps.Clone(boxes) {
		boxes[name+", closed"] = shut(b)
		if b.System == nil {
			boxes[name+", a word"] = told(b, 5)
		}
	}
	boxes["nothing"] = impl.Box{}
	return boxes
}

func TestGoodBox(t *testing.T) {
	for name, b := range goodBoxes() {
		t.Run(name, func(t *testing.T) { expectCall(t, impl.GoodBox, in(b), true) })
	}
	for name, b := range badBoxes() {
		t.Run(name, func(t *testing.T) { expectCall(t, impl.GoodBox, in(b), false) })
	}
}

func TestBadBoxIsRefused(t *testing.T) {
	for name, b := range badBoxes() {
		t.Run(name, func(t *testing.T) {
			for _, id := range []int{math.MinInt, 4, 5, math.MaxInt} {
				expectCall(t, impl.PutLetter, in(b, id, 7), impl.Box{}, impl.BoxBad)
				expectCall(t, impl.PutSystem, in(b, id), impl.Box{}, impl.BoxBad)
				expectCall(t, impl.DoneWith, in(b, id), impl.Box{}, impl.BoxBad)
			}
			expectCall(t, impl.TakeNext, in(b), impl.Box{}, 0, impl.Letter{}, impl.BoxBad)
			expectCall(t, impl.GiveBackLetters, in(b), impl.Box{}, impl.BoxBad)
			expectCall(t, impl.CloseBox, in(b), impl.Box{}, impl.BoxBad)
			expectCall(t, impl.LettersIn, in(b), []int{}, false)
		})
	}
}

func TestPutLetter(t *testing.T) {
	some := told(box(5, letters(2, 5, 6), letters(1, 3, 4)), 8, 9)
	full := box(4, letters(0, 5, 6), letters(1, 3, 4))
	many := letters(0, countUp(0, 29)...)
	for name, c := range map[string]struct {
		b         impl.Box
		id, value int
		next      impl.Box
		code      int
	}{
		"into an empty box":              {box(1, nil, nil), 4, 40, box(1, letters(0, 4), nil), impl.BoxOk},
		"behind the others":              {some, 1, 10, told(box(5, append(letters(2, 5, 6), letter(1, 10, 0)), letters(1, 3, 4)), 8, 9), impl.BoxOk},
		"where all are held":             {box(3, nil, letters(7, 3, 4)), 5, 50, box(3, letters(0, 5), letters(7, 3, 4)), impl.BoxOk},
		"the last of MaxLetters":         {box(30, many, nil), 29, 290, box(30, append(slices.Clone(many), letter(29, 290, 0)), nil), impl.BoxOk},
		"the least id and value":         {some, math.MinInt, math.MinInt, told(box(5, append(letters(2, 5, 6), letter(math.MinInt, math.MinInt, 0)), some.Held), 8, 9), impl.BoxOk},
		"the greatest id and value":      {some, math.MaxInt, math.MaxInt, told(box(5, append(letters(2, 5, 6), letter(math.MaxInt, math.MaxInt, 0)), some.Held), 8, 9), impl.BoxOk},
		"the id 0, the value 0":          {box(2, nil, nil), 0, 0, box(2, []impl.Letter{{}}, nil), impl.BoxOk},
		"a value that is there":          {some, 1, 50, told(box(5, append(letters(2, 5, 6), letter(1, 50, 0)), some.Held), 8, 9), impl.BoxOk},
		"an id that is a word":           {some, 8, 80, told(box(5, append(letters(2, 5, 6), letter(8, 80, 0)), some.Held), 8, 9), impl.BoxOk},
		"MaxLetters words there":         {told(box(1, nil, nil), countUp(0, 30)...), 4, 40, told(box(1, letters(0, 4), nil), countUp(0, 30)...), impl.BoxOk},
		"an id that lies first":          {some, 5, 50, some, impl.BoxHeld},
		"an id that lies last":           {some, 6, 0, some, impl.BoxHeld},
		"an id that is held first":       {some, 3, 0, some, impl.BoxHeld},
		"an id that is held last":        {some, 4, 40, some, impl.BoxHeld},
		"the least id that is there":     {box(3, letters(0, math.MinInt), nil), math.MinInt, 1, box(3, letters(0, math.MinInt), nil), impl.BoxHeld},
		"the greatest id that is held":   {box(3, nil, letters(1, math.MaxInt)), math.MaxInt, 1, box(3, nil, letters(1, math.MaxInt)), impl.BoxHeld},
		"full with both":                 {full, 1, 10, full, impl.BoxFull},
		"full, all lie":                  {box(1, letters(0, 4), nil), 5, 50, box(1, letters(0, 4), nil), impl.BoxFull},
		"full, all are held":             {box(2, nil, letters(1, 4, 5)), 6, 60, box(2, nil, letters(1, 4, 5)), impl.BoxFull},
		"MaxLetters are there":           {box(30, many, letters(1, 29)), 30, 300, box(30, many, letters(1, 29)), impl.BoxFull},
		"closed and empty":               {shut(box(2, nil, nil)), 4, 40, shut(box(2, nil, nil)), impl.BoxClosed},
		"closed, there is room":          {shut(some), 1, 10, shut(some), impl.BoxClosed},
		"closed ahead of held":           {shut(some), 5, 50, shut(some), impl.BoxClosed},
		"closed ahead of one taken":      {shut(some), 3, 30, shut(some), impl.BoxClosed},
		"closed ahead of full":           {shut(full), 1, 10, shut(full), impl.BoxClosed},
		"closed ahead of held and full":  {shut(full), 5, 50, shut(full), impl.BoxClosed},
		"held ahead of full, it lies":    {full, 6, 60, full, impl.BoxHeld},
		"held ahead of full, it is held": {full, 3, 30, full, impl.BoxHeld},
		"bad ahead of closed":            {shut(box(1, letters(0, 4, 5), nil)), 4, 40, impl.Box{}, impl.BoxBad},
	} {
		t.Run(name, func(t *testing.T) { expectCall(t, impl.PutLetter, in(c.b, c.id, c.value), c.next, c.code) })
	}
}

func TestPutSystem(t *testing.T) {
	full := box(2, letters(0, 5), letters(1, 3))
	for name, c := range map[string]struct {
		b    impl.Box
		word int
		next impl.Box
		code int
	}{
		"the first word":               {box(1, nil, nil), 5, told(box(1, nil, nil), 5), impl.BoxOk},
		"behind the others":            {told(full, 7, 8), 5, told(full, 7, 8, 5), impl.BoxOk},
		"into a box that is full":      {full, 5, told(full, 5), impl.BoxOk},
		"into a box that is closed":    {shut(full), 5, told(shut(full), 5), impl.BoxOk},
		"closed, words are there":      {told(shut(full), 6), 5, told(shut(full), 6, 5), impl.BoxOk},
		"the word 0":                   {told(full, 1), 0, told(full, 1, 0), impl.BoxOk},
		"a word that is there":         {told(full, 5), 5, told(full, 5, 5), impl.BoxOk},
		"the least int":                {full, math.MinInt, told(full, math.MinInt), impl.BoxOk},
		"the greatest int":             {full, math.MaxInt, told(full, math.MaxInt), impl.BoxOk},
		"an id as a word":              {full, 3, told(full, 3), impl.BoxOk},
		"the last of MaxLetters":       {told(full, countUp(0, 29)...), 29, told(full, countUp(0, 30)...), impl.BoxOk},
		"one more than MaxLetters":     {told(full, countUp(0, 30)...), 30, told(full, countUp(0, 30)...), impl.BoxFull},
		"one more, Cap 1":              {told(box(1, nil, nil), countUp(0, 30)...), 0, told(box(1, nil, nil), countUp(0, 30)...), impl.BoxFull},
		"one more, it is closed":       {shut(told(full, countUp(0, 30)...)), 30, shut(told(full, countUp(0, 30)...)), impl.BoxFull},
		"a box that is bad, its words": {told(box(0, nil, nil), countUp(0, 30)...), 30, impl.Box{}, impl.BoxBad},
	} {
		t.Run(name, func(t *testing.T) { expectCall(t, impl.PutSystem, in(c.b, c.word), c.next, c.code) })
	}
}

func TestTakeNext(t *testing.T) {
	some := box(6, letters(0, 5, 6), letters(2, 3, 4))
	all := letters(0, countUp(0, 30)...)
	for name, c := range map[string]struct {
		b      impl.Box
		next   impl.Box
		word   int
		letter impl.Letter
		code   int
	}{
		"words ahead of letters":      {told(some, 8, 9), told(some, 9), 8, impl.Letter{}, impl.BoxOk},
		"the last word":               {told(some, 9), some, 9, impl.Letter{}, impl.BoxOk},
		"words alone":                 {told(box(1, nil, nil), 7, 7), told(box(1, nil, nil), 7), 7, impl.Letter{}, impl.BoxOk},
		"a word, all are held":        {told(box(1, nil, letters(1, 4)), 7), box(1, nil, letters(1, 4)), 7, impl.Letter{}, impl.BoxOk},
		"the word 0":                  {told(some, 0, 9), told(some, 9), 0, impl.Letter{}, impl.BoxOk},
		"the word 0 alone":            {told(box(1, nil, nil), 0), box(1, nil, nil), 0, impl.Letter{}, impl.BoxOk},
		"the least word":              {told(some, math.MinInt), some, math.MinInt, impl.Letter{}, impl.BoxOk},
		"the greatest word":           {told(some, math.MaxInt), some, math.MaxInt, impl.Letter{}, impl.BoxOk},
		"the first of MaxLetters":     {told(some, countUp(7, 30)...), told(some, countUp(8, 29)...), 7, impl.Letter{}, impl.BoxOk},
		"a word, it is closed":        {shut(told(some, 8, 9)), shut(told(some, 9)), 8, impl.Letter{}, impl.BoxOk},
		"letters alone":               {box(3, letters(0, 5, 6), nil), box(3, letters(0, 6), letters(1, 5)), 0, letter(5, 50, 1), impl.BoxOk},
		"behind those that are held":  {some, box(6, letters(0, 6), append(letters(2, 3, 4), letter(5, 50, 1))), 0, letter(5, 50, 1), impl.BoxOk},
		"the last letter":             {box(6, letters(0, 5), letters(2, 3)), box(6, nil, append(letters(2, 3), letter(5, 50, 1))), 0, letter(5, 50, 1), impl.BoxOk},
		"the only one of one":         {box(1, letters(0, 4), nil), box(1, nil, letters(1, 4)), 0, letter(4, 40, 1), impl.BoxOk},
		"a letter, it is closed":      {shut(some), shut(box(6, letters(0, 6), append(letters(2, 3, 4), letter(5, 50, 1)))), 0, letter(5, 50, 1), impl.BoxOk},
		"a letter that is all 0":      {box(1, []impl.Letter{{}}, nil), box(1, nil, []impl.Letter{{Tries: 1}}), 0, impl.Letter{Tries: 1}, impl.BoxOk},
		"the first of 30 letters":     {box(30, all, nil), box(30, all[1:], letters(1, 0)), 0, letter(0, 0, 1), impl.BoxOk},
		"id and value at the ends":    {box(2, []impl.Letter{letter(math.MinInt, math.MaxInt, 6)}, nil), box(2, nil, []impl.Letter{letter(math.MinInt, math.MaxInt, 7)}), 0, letter(math.MinInt, math.MaxInt, 7), impl.BoxOk},
		"Tries 998":                   {box(2, letters(998, 4, 5), nil), box(2, letters(998, 5), letters(999, 4)), 0, letter(4, 40, 999), impl.BoxOk},
		"Tries 999":                   {box(2, letters(999, 4, 5), nil), box(2, letters(999, 5), letters(1000, 4)), 0, letter(4, 40, 1000), impl.BoxOk},
		"Tries 1000":                  {box(2, letters(1000, 4, 5), nil), box(2, letters(1000, 5), letters(1000, 4)), 0, letter(4, 40, 1000), impl.BoxOk},
		"nothing":                     {box(1, nil, nil), box(1, nil, nil), 0, impl.Letter{}, impl.BoxNone},
		"nothing, it is closed":       {shut(box(9, nil, nil)), shut(box(9, nil, nil)), 0, impl.Letter{}, impl.BoxNone},
		"all are held":                {box(3, nil, letters(1, 4, 5)), box(3, nil, letters(1, 4, 5)), 0, impl.Letter{}, impl.BoxNone},
		"all of 30 are held":          {box(30, nil, letters(1, countUp(0, 30)...)), box(30, nil, letters(1, countUp(0, 30)...)), 0, impl.Letter{}, impl.BoxNone},
		"a box that is bad, nothing":  {box(31, nil, nil), impl.Box{}, 0, impl.Letter{}, impl.BoxBad},
		"a box that is bad, its word": {told(box(0, nil, nil), 9), impl.Box{}, 0, impl.Letter{}, impl.BoxBad},
	} {
		t.Run(name, func(t *testing.T) { expectCall(t, impl.TakeNext, in(c.b), c.next, c.word, c.letter, c.code) })
	}
}

func TestDoneWith(t *testing.T) {
	some := told(box(9, letters(0, 5, 6), letters(2, 3, 9, 4, 1)), 7)
	all := letters(3, countUp(0, 30)...)
	for name, c := range map[string]struct {
		b    impl.Box
		id   int
		next impl.Box
		code int
	}{
		"the first one held":        {some, 3, told(box(9, letters(0, 5, 6), letters(2, 9, 4, 1)), 7), impl.BoxOk},
		"one in the middle":         {some, 9, told(box(9, letters(0, 5, 6), letters(2, 3, 4, 1)), 7), impl.BoxOk},
		"the other in the middle":   {some, 4, told(box(9, letters(0, 5, 6), letters(2, 3, 9, 1)), 7), impl.BoxOk},
		"the last one held":         {some, 1, told(box(9, letters(0, 5, 6), letters(2, 3, 9, 4)), 7), impl.BoxOk},
		"the only one":              {box(1, nil, letters(1, 4)), 4, box(1, nil, nil), impl.BoxOk},
		"the only one, others lie":  {box(4, letters(0, 5, 6), letters(1, 4)), 4, box(4, letters(0, 5, 6), nil), impl.BoxOk},
		"closed":                    {shut(some), 9, shut(told(box(9, letters(0, 5, 6), letters(2, 3, 4, 1)), 7)), impl.BoxOk},
		"the first of MaxLetters":   {box(30, nil, all), 0, box(30, nil, all[1:]), impl.BoxOk},
		"the last of MaxLetters":    {box(30, nil, all), 29, box(30, nil, all[:29]), impl.BoxOk},
		"the least id":              {box(2, nil, letters(1, math.MaxInt, math.MinInt)), math.MinInt, box(2, nil, letters(1, math.MaxInt)), impl.BoxOk},
		"the greatest id":           {box(2, nil, letters(1, math.MaxInt, math.MinInt)), math.MaxInt, box(2, nil, letters(1, math.MinInt)), impl.BoxOk},
		"the id 0":                  {box(2, nil, letters(1, 0, 1)), 0, box(2, nil, letters(1, 1)), impl.BoxOk},
		"one that lies":             {some, 5, some, impl.BoxNone},
		"one that lies last":        {some, 6, some, impl.BoxNone},
		"one that lies, none held":  {box(3, letters(5, 4), nil), 4, box(3, letters(5, 4), nil), impl.BoxNone},
		"a place, not an id":        {some, 0, some, impl.BoxNone},
		"a value, not an id":        {some, 30, some, impl.BoxNone},
		"a word, not an id":         {some, 7, some, impl.BoxNone},
		"Tries, not an id":          {some, 2, some, impl.BoxNone},
		"none":                      {box(3, nil, nil), 0, box(3, nil, nil), impl.BoxNone},
		"none, it is closed":        {shut(some), 5, shut(some), impl.BoxNone},
		"a box that is bad, no one": {box(3, nil, letters(0, 4)), 5, impl.Box{}, impl.BoxBad},
	} {
		t.Run(name, func(t *testing.T) { expectCall(t, impl.DoneWith, in(c.b, c.id), c.next, c.code) })
	}
}

func TestGiveBackLetters(t *testing.T) {
	for name, c := range map[string]struct {
		b    impl.Box
		next impl.Box
	}{
		"nothing":                     {box(1, nil, nil), box(1, nil, nil)},
		"nothing held":                {box(4, letters(2, 5, 6), nil), box(4, letters(2, 5, 6), nil)},
		"nothing held, a word":        {told(box(4, letters(0, 5), nil), 7, 8), told(box(4, letters(0, 5), nil), 7, 8)},
		"one held, none lies":         {box(1, nil, letters(1, 4)), box(1, letters(1, 4), nil)},
		"many held, none lies":        {box(4, nil, letters(3, 4, 2, 9)), box(4, letters(3, 4, 2, 9), nil)},
		"one of each":                 {box(2, letters(0, 5), letters(1, 4)), box(2, append(letters(1, 4), letter(5, 50, 0)), nil)},
		"many of each, in order":      {box(6, letters(0, 5, 1, 6), letters(7, 9, 3, 4)), box(6, append(letters(7, 9, 3, 4), letters(0, 5, 1, 6)...), nil)},
		"words stay":                  {told(box(6, letters(0, 5), letters(7, 9)), 8, 0), told(box(6, append(letters(7, 9), letters(0, 5)...), nil), 8, 0)},
		"closed":                      {shut(box(6, letters(0, 5), letters(7, 9))), shut(box(6, append(letters(7, 9), letters(0, 5)...), nil))},
		"MaxLetters held":             {box(30, nil, letters(1000, countUp(0, 30)...)), box(30, letters(1000, countUp(0, 30)...), nil)},
		"MaxLetters, half of each":    {box(30, letters(0, countUp(15, 15)...), letters(1, countUp(0, 15)...)), box(30, append(letters(1, countUp(0, 15)...), letters(0, countUp(15, 15)...)...), nil)},
		"Tries stay at their ends":    {box(9, letters(0, 5), []impl.Letter{letter(4, 1, 1000), letter(3, 2, 1)}), box(9, []impl.Letter{letter(4, 1, 1000), letter(3, 2, 1), letter(5, 50, 0)}, nil)},
		"the one tried most is first": {box(9, letters(0, 5), letters(1000, math.MaxInt, math.MinInt)), box(9, append(letters(1000, math.MaxInt, math.MinInt), letters(0, 5)...), nil)},
	} {
		t.Run(name, func(t *testing.T) { expectCall(t, impl.GiveBackLetters, in(c.b), c.next, impl.BoxOk) })
	}
}

func TestCloseBox(t *testing.T) {
	for name, b := range goodBoxes() {
		t.Run(name, func(t *testing.T) {
			code := impl.BoxOk
			if b.Closed {
				code = impl.BoxClosed
			}
			expectCall(t, impl.CloseBox, in(b), shut(b), code)
			expectCall(t, impl.CloseBox, in(shut(b)), shut(b), impl.BoxClosed)
		})
	}
}

func TestLettersIn(t *testing.T) {
	for name, c := range map[string]struct {
		b   impl.Box
		ids []int
	}{
		"nothing":                     {box(1, nil, nil), nil},
		"words are none":              {told(box(1, nil, nil), 4, 5), nil},
		"Letters alone":               {box(5, letters(0, 9, 2, 7), nil), []int{9, 2, 7}},
		"Held alone":                  {box(5, nil, letters(1, 9, 2, 7)), []int{9, 2, 7}},
		"Letters, then Held":          {box(9, letters(3, 9, 2), letters(1, 1, 7, 0)), []int{9, 2, 1, 7, 0}},
		"words and both":              {told(box(9, letters(3, 9, 2), letters(1, 1)), 5), []int{9, 2, 1}},
		"closed":                      {shut(box(9, letters(3, 9, 2), letters(1, 1))), []int{9, 2, 1}},
		"ids at the ends":             {box(4, letters(0, math.MaxInt, -1), letters(1, math.MinInt)), []int{math.MaxInt, -1, math.MinInt}},
		"MaxLetters, the later first": {box(30, letters(0, countUp(10, 20)...), letters(1, countUp(0, 10)...)), append(countUp(10, 20), countUp(0, 10)...)},
	} {
		t.Run(name, func(t *testing.T) { expectCall(t, impl.LettersIn, in(c.b), c.ids, true) })
	}
}

func TestEmptyListsInABox(t *testing.T) {
	for _, b := range []impl.Box{
		{Cap: 3},
		{Cap: 3, System: []int{}, Letters: []impl.Letter{}, Held: []impl.Letter{}},
		{Cap: 3, System: make([]int, 0, 5), Letters: make([]impl.Letter, 0, 5), Held: make([]impl.Letter, 0, 5)},
	} {
		spoken, _ := impl.PutSystem(b, 4)
		put, _ := impl.PutLetter(b, 4, 40)
		none, _, _, _ := impl.TakeNext(b)
		heard, _, _, _ := impl.TakeNext(spoken)
		taken, _, _, _ := impl.TakeNext(put)
		done, _ := impl.DoneWith(taken, 4)
		back, _ := impl.GiveBackLetters(b)
		over, _ := impl.CloseBox(b)
		ids, _ := impl.LettersIn(b)
		for _, next := range []impl.Box{none, heard, done, back, over} {
			if next.System != nil || next.Letters != nil || next.Held != nil {
				t.Errorf("%#v", next)
			}
		}
		if spoken.Letters != nil || spoken.Held != nil || put.System != nil || put.Held != nil || taken.Letters != nil || ids != nil {
			t.Errorf("%#v %#v %#v %#v", spoken, put, taken, ids)
		}
	}
}

// The lists of a box may lie behind one another in one memory: what is put behind one of them must not run into the next.
func TestListsInOneMemory(t *testing.T) {
	memory := letters(1, countUp(0, 8)...)
	words := countUp(70, 6)
	b := impl.Box{Cap: 9, System: words[:3], Letters: memory[:3], Held: memory[3:6]}
	quiet := impl.Box{Cap: 9, Letters: memory[:3], Held: memory[3:6]}
	put, _ := impl.PutLetter(b, 99, 990)
	spoken, _ := impl.PutSystem(b, 79)
	heard, _, _, _ := impl.TakeNext(b)
	taken, _, _, _ := impl.TakeNext(quiet)
	done, _ := impl.DoneWith(b, 3)
	back, _ := impl.GiveBackLetters(b)
	if !slices.Equal(memory, letters(1, countUp(0, 8)...)) || !slices.Equal(words, countUp(70, 6)) {
		t.Error("written into:", memory, words)
	}
	for _, c := range []struct{ got, want impl.Box }{
		{put, told(box(9, append(letters(1, 0, 1, 2), letter(99, 990, 0)), letters(1, 3, 4, 5)), 70, 71, 72)},
		{spoken, told(box(9, letters(1, 0, 1, 2), letters(1, 3, 4, 5)), 70, 71, 72, 79)},
		{heard, told(box(9, letters(1, 0, 1, 2), letters(1, 3, 4, 5)), 71, 72)},
		{taken, box(9, letters(1, 1, 2), append(letters(1, 3, 4, 5), letter(0, 0, 2)))},
		{done, told(box(9, letters(1, 0, 1, 2), letters(1, 4, 5)), 70, 71, 72)},
		{back, told(box(9, letters(1, 3, 4, 5, 0, 1, 2), nil), 70, 71, 72)},
	} {
		if !sameValues([]any{c.got}, []any{c.want}) {
			t.Errorf("%+v, not %+v", c.got, c.want)
		}
	}
}

func expectBoxModel(t *testing.T, b impl.Box, ids []int, codes map[int]int) {
	t.Helper()
	expectCall(t, impl.GoodBox, in(b), modelGoodBox(b))
	all, yes := modelLettersIn(b)
	expectCall(t, impl.LettersIn, in(b), all, yes)
	expectTakeModel(t, b, codes)
	for _, id := range ids {
		next, code := modelPutLetter(b, id, -id)
		expectCall(t, impl.PutLetter, in(b, id, -id), next, code)
		codes[code]++
		next, code = modelDoneWith(b, id)
		expectCall(t, impl.DoneWith, in(b, id), next, code)
		codes[code]++
	}
	next, code := modelPutSystem(b, ids[0])
	expectCall(t, impl.PutSystem, in(b, ids[0]), next, code)
	codes[code]++
}

func expectTakeModel(t *testing.T, b impl.Box, codes map[int]int) {
	t.Helper()
	next, word, first, code := modelTakeNext(b)
	expectCall(t, impl.TakeNext, in(b), next, word, first, code)
	codes[code]++
	next, code = modelGiveBack(b)
	expectCall(t, impl.GiveBackLetters, in(b), next, code)
	codes[code]++
	next, code = modelCloseBox(b)
	expectCall(t, impl.CloseBox, in(b), next, code)
	codes[code]++
}

func TestAllSmallBoxes(t *testing.T) {
	var kinds []impl.Letter
	for _, id := range []int{0, 7} {
		for _, tries := range []int{-1, 0, 1, 1000, 1001} {
			kinds = append(kinds, letter(id, 5-id, tries))
		}
	}
	met, codes := 0, map[int]int{}
	lists := listsOf(kinds, 2)
	for _, lies := range lists {
		for _, held := range lists {
			for size := range 4 {
				b := box(size, lies, held)
				if got := impl.GoodBox(b); got != modelGoodBox(b) {
					t.Fatalf("GoodBox of %+v: %v", b, got)
				}
				if !modelGoodBox(b) {
					continue
				}
				met++
				for _, one := range []impl.Box{b, shut(b), told(b, 0), told(b, 7, 3)} {
					expectBoxModel(t, one, []int{0, 7, 8}, codes)
				}
			}
		}
	}
	// 1 without letters, 6 and 4 with one that lies or is held, and, where Cap is above 1, 18, 8 and 12 with two.
	if met != 11+49+49 {
		t.Error("not all good boxes were met:", met)
	}
	expectMet(t, codes, 10, impl.BoxOk, impl.BoxClosed, impl.BoxFull, impl.BoxNone, impl.BoxHeld)
}

// anyGoodBox is full in many, and has words in few, so that letters are taken.
func (r *turns) anyGoodBox() impl.Box {
	b := impl.Box{Cap: []int{1, 2 + r.next(5), 1 + r.next(30), 30}[r.next(4)], Closed: r.next(4) == 0}
	if r.next(3) == 0 {
		b.System = r.anyValues([]int{1, r.next(31), 30}[r.next(3)])
	}
	many := []int{0, r.next(b.Cap + 1), b.Cap}[r.next(3)]
	held := []int{0, r.next(many + 1), many}[r.next(3)]
	for k, id := range r.anyTasks(many) {
		l := letter(id, r.wideInt(), []int{0, 999, 1000, r.next(1001)}[r.next(4)])
		if k < held {
			l.Tries = max(l.Tries, 1)
			b.Held = append(b.Held, l)
		} else {
			b.Letters = append(b.Letters, l)
		}
	}
	return b
}

func TestManyGoodBoxes(t *testing.T) {
	r, codes := turns(66), map[int]int{}
	for range 1000 {
		b := r.anyGoodBox()
		if !impl.GoodBox(b) {
			t.Fatalf("%+v is not good", b)
		}
		ids := []int{r.next(30), r.wideInt()}
		if len(b.Held) > 0 {
			ids = append(ids, b.Held[r.next(len(b.Held))].Id)
		}
		expectBoxModel(t, b, ids, codes)
	}
	expectMet(t, codes, 50, impl.BoxOk, impl.BoxClosed, impl.BoxFull, impl.BoxNone, impl.BoxHeld)
}

// anyLetters have few different ids and strange Tries, some of them none.
func (r *turns) anyLetters() []impl.Letter {
	var list []impl.Letter
	for range r.next(2) * r.next(40) / (1 + r.next(10)) {
		list = append(list, letter(r.anyInt(), r.wideInt(), r.anyInt()))
	}
	return list
}

// Promise 14: boxes of any numbers.
func TestAnyBoxIsAnswered(t *testing.T) {
	r, codes := turns(614), map[int]int{}
	for range 1000 {
		b := impl.Box{Cap: r.anyInt(), Closed: r.next(2) == 0, Letters: r.anyLetters(), Held: r.anyLetters()}
		if r.next(2) == 0 {
			b.System = r.anyValues(r.next(33))
		}
		expectBoxModel(t, b, []int{r.anyInt(), r.wideInt()}, codes)
	}
	expectMet(t, codes, 50, impl.BoxOk, impl.BoxBad, impl.BoxClosed, impl.BoxNone)
}
