package tests

import (
	"cmp"
	"slices"

	"loop.example/g00145/impl"
)

// The chapter said a second time, plainly, for comparison over many topics.

func modelSubIds(subs []impl.Sub) []int {
	var ids []int
	for _, s := range subs {
		ids = append(ids, s.Id)
	}
	return ids
}

func modelGoodSub(s impl.Sub) bool {
	most := 0
	if s.Drops {
		most = 1000000
	}
	return modelIsIn(1, s.Cap, 20) && modelIsIn(0, len(s.Queue), s.Cap) && modelIsIn(0, s.Dropped, most)
}

func modelGoodTopic(t impl.Topic) bool {
	ids := modelSubIds(t.Subs)
	slices.Sort(ids)
	switch {
	case !modelIsIn(0, t.Said, 1000000), len(t.Subs) > 10:
		return false
	case !slices.Equal(ids, modelSubIds(t.Subs)), len(slices.Compact(ids)) != len(t.Subs):
		return false
	}
	return !slices.ContainsFunc(t.Subs, func(s impl.Sub) bool { return !modelGoodSub(s) })
}

func modelSubscribe(t impl.Topic, id, size int, drops bool) (impl.Topic, int) {
	switch {
	case !modelGoodTopic(t), !modelIsIn(1, size, 20):
		return impl.Topic{}, impl.TopicBad
	case slices.Contains(modelSubIds(t.Subs), id):
		return t, impl.TopicTwice
	case len(t.Subs) >= 10:
		return t, impl.TopicFull
	}
	t.Subs = append(slices.Clone(t.Subs), impl.Sub{Id: id, Cap: size, Drops: drops})
	slices.SortFunc(t.Subs, func(a, b impl.Sub) int { return cmp.Compare(a.Id, b.Id) })
	return t, impl.TopicOk
}

func modelUnsubscribe(t impl.Topic, id int) (impl.Topic, []int, int) {
	if !modelGoodTopic(t) {
		return impl.Topic{}, nil, impl.TopicBad
	}
	var unheard []int
	var others []impl.Sub
	for _, s := range t.Subs {
		if s.Id == id {
			unheard = s.Queue
		} else {
			others = append(others, s)
		}
	}
	if len(others) == len(t.Subs) {
		return t, nil, impl.TopicNone
	}
	return impl.Topic{Said: t.Said, Subs: others}, unheard, impl.TopicOk
}

// modelCrowded are the Ids of those whose Queue has Cap, of the kind that Drops or of the other.
func modelCrowded(t impl.Topic, drops bool) []int {
	var ids []int
	for _, s := range t.Subs {
		if s.Drops == drops && len(s.Queue) >= s.Cap {
			ids = append(ids, s.Id)
		}
	}
	return ids
}

func modelPublish(t impl.Topic, value int) (impl.Topic, []int, int) {
	switch {
	case !modelGoodTopic(t), t.Said == 1000000:
		return impl.Topic{}, nil, impl.TopicBad
	case len(modelCrowded(t, false)) > 0:
		return t, modelCrowded(t, false), impl.TopicFull
	}
	lost := modelCrowded(t, true)
	t.Said++
	t.Subs = slices.Clone(t.Subs)
	for k, s := range t.Subs {
		all := slices.Concat(s.Queue, []int{value})
		// What is beyond Cap is cut off ahead.
		t.Subs[k].Queue = all[max(0, len(all)-s.Cap):]
		if slices.Contains(lost, s.Id) && s.Dropped < 1000000 {
			t.Subs[k].Dropped++
		}
	}
	return t, lost, impl.TopicOk
}

func modelHearNext(t impl.Topic, id int) (impl.Topic, int, int) {
	if !modelGoodTopic(t) {
		return impl.Topic{}, 0, impl.TopicBad
	}
	place := slices.Index(modelSubIds(t.Subs), id)
	switch {
	case place < 0:
		return t, 0, impl.TopicNone
	case len(t.Subs[place].Queue) == 0:
		return t, 0, impl.TopicFull
	}
	t.Subs = slices.Clone(t.Subs)
	first := t.Subs[place].Queue[0]
	t.Subs[place].Queue = t.Subs[place].Queue[1:]
	return t, first, impl.TopicOk
}

func modelWaitingOn(t impl.Topic) ([]int, bool) {
	if !modelGoodTopic(t) {
		return nil, false
	}
	return modelCrowded(t, false), true
}
