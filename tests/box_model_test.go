package tests

import (
	"slices"

	"loop.example/g00145/impl"
)

// The chapter said a second time, plainly, for comparison over many boxes.

func modelLetters(b impl.Box) []impl.Letter { return slices.Concat(b.Letters, b.Held) }

func modelHasId(list []impl.Letter, id int) bool {
	return slices.ContainsFunc(list, func(l impl.Letter) bool { return l.Id == id })
}

func modelGoodBox(b impl.Box) bool {
	all := modelLetters(b)
	often := map[int]int{}
	for _, l := range all {
		often[l.Id]++
	}
	switch {
	case b.Cap < 1, b.Cap > 30, len(b.System) > 30, len(all) > b.Cap, len(often) != len(all):
		return false
	case slices.ContainsFunc(all, func(l impl.Letter) bool { return l.Tries < 0 || l.Tries > 1000 }):
		return false
	}
	return !slices.ContainsFunc(b.Held, func(l impl.Letter) bool { return l.Tries == 0 })
}

func modelPutLetter(b impl.Box, id, value int) (impl.Box, int) {
	switch {
	case !modelGoodBox(b):
		return impl.Box{}, impl.BoxBad
	case b.Closed:
		return b, impl.BoxClosed
	case modelHasId(modelLetters(b), id):
		return b, impl.BoxHeld
	case len(modelLetters(b)) >= b.Cap:
		return b, impl.BoxFull
	}
	b.Letters = slices.Concat(b.Letters, []impl.Letter{{Id: id, Value: value}})
	return b, impl.BoxOk
}

func modelPutSystem(b impl.Box, word int) (impl.Box, int) {
	switch {
	case !modelGoodBox(b):
		return impl.Box{}, impl.BoxBad
	case len(b.System) >= 30:
		return b, impl.BoxFull
	}
	b.System = slices.Concat(b.System, []int{word})
	return b, impl.BoxOk
}

func modelTakeNext(b impl.Box) (impl.Box, int, impl.Letter, int) {
	switch {
	case !modelGoodBox(b):
		return impl.Box{}, 0, impl.Letter{}, impl.BoxBad
	case len(b.System) > 0:
		word := b.System[0]
		b.System = b.System[1:]
		return b, word, impl.Letter{}, impl.BoxOk
	case len(b.Letters) == 0:
		return b, 0, impl.Letter{}, impl.BoxNone
	}
	first := b.Letters[0]
	if first.Tries < 1000 {
		first.Tries++
	}
	b.Letters, b.Held = b.Letters[1:], slices.Concat(b.Held, []impl.Letter{first})
	return b, 0, first, impl.BoxOk
}

func modelDoneWith(b impl.Box, id int) (impl.Box, int) {
	switch {
	case !modelGoodBox(b):
		return impl.Box{}, impl.BoxBad
	case !modelHasId(b.Held, id):
		return b, impl.BoxNone
	}
	b.Held = slices.DeleteFunc(slices.Clone(b.Held), func(l impl.Letter) bool { return l.Id == id })
	return b, impl.BoxOk
}

func modelGiveBack(b impl.Box) (impl.Box, int) {
	if !modelGoodBox(b) {
		return impl.Box{}, impl.BoxBad
	}
	b.Letters, b.Held = slices.Concat(b.Held, b.Letters), nil
	return b, impl.BoxOk
}

func modelCloseBox(b impl.Box) (impl.Box, int) {
	switch {
	case !modelGoodBox(b):
		return impl.Box{}, impl.BoxBad
	case b.Closed:
		return b, impl.BoxClosed
	}
	b.Closed = true
	return b, impl.BoxOk
}

func modelLettersIn(b impl.Box) ([]int, bool) {
	if !modelGoodBox(b) {
		return nil, false
	}
	return modelIds(modelLetters(b)), true
}

func modelIds(list []impl.Letter) []int {
	var ids []int
	for _, l := range list {
		ids = append(ids, l.Id)
	}
	return ids
}
