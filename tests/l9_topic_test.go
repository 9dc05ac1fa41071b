package tests

import (
	"maps"
	"math"
	"slices"
	"strconv"
	"testing"

	"loop.example/g00145/impl"
)

// keeping and dropping make Subs short enough to be read in a row.
func keeping(id, size int, queue ...int) impl.Sub {
	return impl.Sub{Id: id, Cap: size, Queue: queue}
}

func dropping(id, size, dropped int, queue ...int) impl.Sub {
	return impl.Sub{Id: id, Cap: size, Drops: true, Dropped: dropped, Queue: queue}
}

func topic(said int, subs ...impl.Sub) impl.Topic {
	return impl.Topic{Said: said, Subs: subs}
}

// manySubs have the Ids from first on, by turns of either kind, with one value each and room for more.
func manySubs(first, many int) []impl.Sub {
	var subs []impl.Sub
	for k := range many {
		if k%2 == 0 {
			subs = append(subs, keeping(first+k, 3, 10*k))
		} else {
			subs = append(subs, dropping(first+k, 2, k, 10*k))
		}
	}
	return subs
}

func TestTopicConstants(t *testing.T) {
	got := []int{impl.MaxSubs, impl.MaxHeard, impl.TopicOk, impl.TopicBad, impl.TopicTwice, impl.TopicFull, impl.TopicNone}
	if want := []int{10, 20, 0, 1, 2, 3, 4}; !slices.Equal(got, want) {
		t.Error(got, want)
	}
}

func goodTopics() map[string]impl.Topic {
	topics := map[string]impl.Topic{
		"nothing":                       {},
		"the empty list":                {Said: 3, Subs: []impl.Sub{}},
		"Said 1":                        topic(1),
		"Said 999999":                   topic(999999, keeping(1, 1)),
		"Said 1000000":                  topic(1000000),
		"Said 1000000, full and empty":  topic(1000000, keeping(1, 1, 5), dropping(2, 1, 1000000, 6), keeping(3, 2)),
		"one of either kind":            topic(9, keeping(3, 2, 7), dropping(4, 3, 5, 8, 9)),
		"an empty queue":                topic(9, impl.Sub{Id: 3, Cap: 2, Queue: []int{}}),
		"9 Subs":                        topic(9, manySubs(0, 9)...),
		"10 Subs":                       topic(9, manySubs(0, 10)...),
		"10 Subs of Ids below 0":        topic(9, manySubs(-20, 10)...),
		"10 Subs from the least Id on":  topic(9, manySubs(math.MinInt, 10)...),
		"10 Subs to the greatest Id":    topic(9, manySubs(math.MaxInt-9, 10)...),
		"the least and the greatest Id": topic(9, keeping(math.MinInt, 2, 7), dropping(math.MaxInt, 3, 5, 8, 9)),
		"far apart and next":            topic(9, keeping(math.MinInt, 2), keeping(-1, 2), keeping(0, 2), keeping(1, 2), keeping(math.MaxInt, 2)),
		"Cap 1, empty":                  topic(9, keeping(1, 1), dropping(2, 1, 0)),
		"Cap 1, full":                   topic(9, keeping(1, 1, 5), dropping(2, 1, 0, 6)),
		"Cap 20, 19 and 20":             topic(9, keeping(1, 20, countUp(0, 19)...), keeping(2, 20, countUp(0, 20)...)),
		"Cap 20, 19 and 20, that drop":  topic(9, dropping(1, 20, 0, countUp(0, 19)...), dropping(2, 20, 3, countUp(0, 20)...)),
		"dropped more than was said":    topic(0, dropping(1, 2, 1000000)),
		"more in a queue than was said": topic(0, keeping(1, 3, 7, 8, 9)),
		"one value more than once":      topic(9, keeping(1, 3, 7, 7, 7), dropping(2, 3, 0, 7, 7)),
		"values at their ends":          topic(9, keeping(1, 3, math.MinInt, math.MaxInt), dropping(2, 2, 0, math.MaxInt, math.MinInt)),
	}
	wide := topic(9)
	for k := range 10 {
		wide.Subs = append(wide.Subs, keeping(7*k, 20, countUp(100*k, 20)...))
	}
	topics["10 of 20 values"] = wide
	for _, dropped := range []int{0, 1, 999999, 1000000} {
		topics["Dropped "+strconv.Itoa(dropped)] = topic(9, dropping(1, 2, dropped), dropping(2, 2, dropped, 5, 6))
	}
	return topics
}

// badSubs are bad in any topic; each stands behind Ids below 0.
func badSubs() map[string][]impl.Sub {
	lists := map[string][]impl.Sub{
		"an Id twice":                 {keeping(4, 2), keeping(4, 2)},
		"an Id twice, of both kinds":  {keeping(4, 2, 7), dropping(4, 3, 1)},
		"an Id twice, far apart":      {keeping(4, 2), keeping(5, 2), keeping(4, 2)},
		"an Id twice at the end":      {keeping(3, 2), keeping(4, 2), keeping(5, 2), keeping(5, 2)},
		"the greatest Id twice":       {keeping(math.MaxInt, 2), keeping(math.MaxInt, 2)},
		"Ids that fall by one":        {keeping(5, 2), keeping(4, 2)},
		"Ids that fall far":           {keeping(math.MaxInt, 2), keeping(0, 2)},
		"Ids that fall in the midst":  {keeping(1, 2), keeping(7, 2), keeping(6, 2), keeping(8, 2)},
		"Ids that fall at the end":    {keeping(1, 2), keeping(7, 2), keeping(8, 2), keeping(2, 2)},
		"11 Subs":                     manySubs(0, 11),
		"far too many":                manySubs(0, 300),
		"far too many, all alike":     slices.Repeat([]impl.Sub{keeping(1, 2)}, 300),
		"2 values, Cap 1":             {keeping(4, 1, 7, 8)},
		"2 values, Cap 1, it drops":   {dropping(4, 1, 3, 7, 8)},
		"21 values, Cap 20":           {keeping(4, 20, countUp(0, 21)...)},
		"21 values, Cap 20, it drops": {dropping(4, 20, 3, countUp(0, 21)...)},
		"20 values, Cap 19":           {keeping(4, 19, countUp(0, 20)...)},
		"far too many values":         {dropping(4, 20, 3, countUp(0, 3000)...)},
		"too many behind good ones":   {keeping(4, 2, 7), dropping(5, 2, 1, 7, 8), keeping(6, 2, 7, 8, 9)},
	}
	for _, size := range []int{math.MinInt, -1, 0, 21, math.MaxInt} {
		name := "Cap " + strconv.Itoa(size)
		lists[name] = []impl.Sub{keeping(4, size)}
		lists[name+" with a value"] = []impl.Sub{keeping(4, size, 7)}
		lists[name+" that drops"] = []impl.Sub{dropping(4, size, 1)}
		lists[name+" in the midst"] = []impl.Sub{keeping(3, 2, 7), keeping(4, size), keeping(5, 2)}
	}
	lists["Cap 21 with 21 values"] = []impl.Sub{keeping(4, 21, countUp(0, 21)...)}
	for _, dropped := range []int{math.MinInt, -1, 1000001, math.MaxInt} {
		name := "Dropped " + strconv.Itoa(dropped)
		lists[name] = []impl.Sub{dropping(4, 2, dropped, 7)}
		lists[name+" behind others"] = []impl.Sub{keeping(3, 2, 7), dropping(4, 2, 1000000, 7), dropping(5, 2, dropped, 7, 8)}
	}
	for _, dropped := range []int{math.MinInt, -1, 1, 7, 1000000, 1000001, math.MaxInt} {
		name := "Dropped " + strconv.Itoa(dropped) + " where it does not drop"
		lists[name] = []impl.Sub{{Id: 4, Cap: 2, Dropped: dropped, Queue: []int{7}}}
		lists[name+", behind others"] = []impl.Sub{dropping(3, 2, 1, 7), {Id: 4, Cap: 2, Dropped: dropped, Queue: []int{7, 8}}}
	}
	return lists
}

func badTopics() map[string]impl.Topic {
	topics := map[string]impl.Topic{
		"the least Id twice":         topic(9, keeping(math.MinInt, 2), keeping(math.MinInt, 2)),
		"from the greatest to least": topic(9, keeping(math.MaxInt, 2), keeping(math.MinInt, 2)),
		"11, the last one bad":       topic(9, append(manySubs(0, 10), keeping(10, 0))...),
		"10, the last one bad":       topic(9, append(manySubs(0, 9), keeping(10, 0))...),
		"Said 1000001, full":         topic(1000001, keeping(4, 1, 7)),
	}
	falling := manySubs(0, 10)
	slices.Reverse(falling)
	topics["10 falling"] = topic(9, falling...)
	for _, said := range []int{math.MinInt, -1, 1000001, math.MaxInt} {
		name := "Said " + strconv.Itoa(said)
		topics[name] = topic(said)
		topics[name+", Subs"] = topic(said, keeping(4, 2, 7), dropping(5, 2, 1, 8))
	}
	for name, subs := range badSubs() {
		topics[name] = topic(9, subs...)
		topics[name+", two ahead"] = topic(9, slices.Concat([]impl.Sub{keeping(-7, 2, 7), dropping(-5, 2, 1, 8)}, subs)...)
	}
	return topics
}

func TestGoodTopic(t *testing.T) {
	for name, x := range goodTopics() {
		t.Run(name, func(t *testing.T) { expectCall(t, impl.GoodTopic, in(x), true) })
	}
	for name, x := range badTopics() {
		t.Run(name, func(t *testing.T) { expectCall(t, impl.GoodTopic, in(x), false) })
	}
}

func TestBadTopicIsRefused(t *testing.T) {
	for name, x := range badTopics() {
		t.Run(name, func(t *testing.T) {
			for _, id := range []int{math.MinInt, 4, 99, math.MaxInt} {
				for _, size := range []int{math.MinInt, 1, 20, 21} {
					expectCall(t, impl.Subscribe, in(x, id, size, size == 20), impl.Topic{}, impl.TopicBad)
				}
				expectCall(t, impl.Unsubscribe, in(x, id), impl.Topic{}, []int{}, impl.TopicBad)
				expectCall(t, impl.Publish, in(x, id), impl.Topic{}, []int{}, impl.TopicBad)
				expectCall(t, impl.HearNext, in(x, id), impl.Topic{}, 0, impl.TopicBad)
			}
			expectCall(t, impl.WaitingOn, in(x), []int{}, false)
		})
	}
}

func TestSubscribe(t *testing.T) {
	one, other := keeping(3, 2, 7, 8), dropping(6, 3, 5, 9)
	some := topic(9, one, other)
	ends := topic(9, keeping(math.MinInt, 2, 7), dropping(math.MaxInt, 2, 1, 8))
	for name, c := range map[string]struct {
		x     impl.Topic
		id    int
		size  int
		drops bool
		next  impl.Topic
	}{
		"the first":                    {impl.Topic{}, 4, 5, false, topic(0, keeping(4, 5))},
		"the first, that drops":        {impl.Topic{}, 4, 5, true, topic(0, dropping(4, 5, 0))},
		"the first, the id 0":          {topic(7), 0, 5, true, topic(7, dropping(0, 5, 0))},
		"ahead of all":                 {some, 1, 5, false, topic(9, keeping(1, 5), one, other)},
		"just ahead of all":            {some, 2, 5, true, topic(9, dropping(2, 5, 0), one, other)},
		"just behind the first":        {some, 4, 5, false, topic(9, one, keeping(4, 5), other)},
		"just ahead of the last":       {some, 5, 5, true, topic(9, one, dropping(5, 5, 0), other)},
		"just behind all":              {some, 7, 5, false, topic(9, one, other, keeping(7, 5))},
		"behind all":                   {some, 99, 5, true, topic(9, one, other, dropping(99, 5, 0))},
		"below 0":                      {some, -3, 5, true, topic(9, dropping(-3, 5, 0), one, other)},
		"the least id":                 {some, math.MinInt, 5, false, topic(9, keeping(math.MinInt, 5), one, other)},
		"the greatest id":              {some, math.MaxInt, 5, false, topic(9, one, other, keeping(math.MaxInt, 5))},
		"between the ends":             {ends, 0, 5, true, topic(9, ends.Subs[0], dropping(0, 5, 0), ends.Subs[1])},
		"just behind the least":        {ends, math.MinInt + 1, 5, true, topic(9, ends.Subs[0], dropping(math.MinInt+1, 5, 0), ends.Subs[1])},
		"just ahead of the greatest":   {ends, math.MaxInt - 1, 5, true, topic(9, ends.Subs[0], dropping(math.MaxInt-1, 5, 0), ends.Subs[1])},
		"the least size":               {some, 4, 1, false, topic(9, one, keeping(4, 1), other)},
		"the greatest size":            {some, 4, 20, false, topic(9, one, keeping(4, 20), other)},
		"the least size, it drops":     {some, 4, 1, true, topic(9, one, dropping(4, 1, 0), other)},
		"the greatest size, it drops":  {some, 4, 20, true, topic(9, one, dropping(4, 20, 0), other)},
		"the tenth, ahead":             {topic(9, manySubs(1, 9)...), 0, 5, true, topic(9, slices.Concat([]impl.Sub{dropping(0, 5, 0)}, manySubs(1, 9))...)},
		"the tenth, behind":            {topic(9, manySubs(1, 9)...), 10, 5, false, topic(9, append(manySubs(1, 9), keeping(10, 5))...)},
		"where all is said":            {topic(1000000, one), 4, 5, false, topic(1000000, one, keeping(4, 5))},
		"where one waits":              {topic(9, keeping(3, 1, 7)), 4, 5, false, topic(9, keeping(3, 1, 7), keeping(4, 5))},
		"a value and a size as an id":  {some, 8, 8, false, topic(9, one, other, keeping(8, 8))},
		"one that left comes again":    {topic(9, other), 3, 2, false, topic(9, keeping(3, 2), other)},
		"one that dropped comes again": {topic(9, one), 6, 3, true, topic(9, one, dropping(6, 3, 0))},
	} {
		t.Run(name, func(t *testing.T) {
			expectCall(t, impl.Subscribe, in(c.x, c.id, c.size, c.drops), c.next, impl.TopicOk)
		})
	}
}

func TestSubscribeIsRefused(t *testing.T) {
	some := topic(9, keeping(3, 2, 7, 8), dropping(6, 3, 5, 9))
	ends := topic(9, keeping(math.MinInt, 2, 7), dropping(math.MaxInt, 2, 1, 8))
	full := topic(9, manySubs(0, 10)...)
	for _, drops := range []bool{false, true} {
		for _, size := range []int{1, 2, 3, 20} {
			for _, id := range []int{3, 6} {
				expectCall(t, impl.Subscribe, in(some, id, size, drops), some, impl.TopicTwice)
			}
			for _, id := range []int{math.MinInt, math.MaxInt} {
				expectCall(t, impl.Subscribe, in(ends, id, size, drops), ends, impl.TopicTwice)
			}
			for _, id := range []int{math.MinInt, -1, 10, math.MaxInt} {
				expectCall(t, impl.Subscribe, in(full, id, size, drops), full, impl.TopicFull)
			}
			// Twice is looked for ahead of full.
			for id := range 10 {
				expectCall(t, impl.Subscribe, in(full, id, size, drops), full, impl.TopicTwice)
			}
		}
		// A size that is none is looked for ahead of both.
		for _, size := range []int{math.MinInt, -1, 0, 21, math.MaxInt} {
			for _, x := range []impl.Topic{{}, some, ends, full} {
				for _, id := range []int{math.MinInt, 0, 3, 6, 9, 10, math.MaxInt} {
					expectCall(t, impl.Subscribe, in(x, id, size, drops), impl.Topic{}, impl.TopicBad)
				}
			}
		}
	}
}

func TestUnsubscribe(t *testing.T) {
	one, two, three := keeping(3, 2, 7, 8), dropping(6, 3, 5, 9), keeping(8, 4)
	some := topic(9, one, two, three)
	many := manySubs(0, 10)
	ends := []int{math.MinInt, math.MaxInt, 0}
	for name, c := range map[string]struct {
		x       impl.Topic
		id      int
		next    impl.Topic
		unheard []int
		code    int
	}{
		"the first":                    {some, 3, topic(9, two, three), []int{7, 8}, impl.TopicOk},
		"between two":                  {some, 6, topic(9, one, three), []int{9}, impl.TopicOk},
		"the last, nothing is unheard": {some, 8, topic(9, one, two), nil, impl.TopicOk},
		"the only one":                 {topic(9, one), 3, topic(9), []int{7, 8}, impl.TopicOk},
		"the only one, nothing":        {topic(9, three), 8, topic(9), nil, impl.TopicOk},
		"20 values":                    {topic(9, keeping(1, 20, countUp(5, 20)...)), 1, topic(9), countUp(5, 20), impl.TopicOk},
		"20 values, it drops":          {topic(9, dropping(1, 20, 1000000, countDown()[:20]...)), 1, topic(9), countDown()[:20], impl.TopicOk},
		"values at their ends":         {topic(9, keeping(1, 3, ends...)), 1, topic(9), ends, impl.TopicOk},
		"the values 0":                 {topic(9, keeping(1, 3, 0, 0)), 1, topic(9), []int{0, 0}, impl.TopicOk},
		"the first of 10":              {topic(9, many...), 0, topic(9, many[1:]...), []int{0}, impl.TopicOk},
		"the last of 10":               {topic(9, many...), 9, topic(9, many[:9]...), []int{90}, impl.TopicOk},
		"the least id":                 {topic(9, keeping(math.MinInt, 2, 7), one), math.MinInt, topic(9, one), []int{7}, impl.TopicOk},
		"the greatest id":              {topic(9, one, keeping(math.MaxInt, 2, 7)), math.MaxInt, topic(9, one), []int{7}, impl.TopicOk},
		"one that waits":               {topic(9, keeping(1, 1, 7), three), 1, topic(9, three), []int{7}, impl.TopicOk},
		"where all is said":            {topic(1000000, one), 3, topic(1000000), []int{7, 8}, impl.TopicOk},
		"no Subs":                      {topic(9), 0, topic(9), nil, impl.TopicNone},
		"none, ahead of all":           {some, 2, some, nil, impl.TopicNone},
		"none, between two":            {some, 5, some, nil, impl.TopicNone},
		"none, between the last two":   {some, 7, some, nil, impl.TopicNone},
		"none, behind all":             {some, 9, some, nil, impl.TopicNone},
		"none, the least":              {some, math.MinInt, some, nil, impl.TopicNone},
		"none, the greatest":           {some, math.MaxInt, some, nil, impl.TopicNone},
		"none, 0":                      {some, 0, some, nil, impl.TopicNone},
		"none, a place":                {some, 1, some, nil, impl.TopicNone},
	} {
		t.Run(name, func(t *testing.T) { expectCall(t, impl.Unsubscribe, in(c.x, c.id), c.next, c.unheard, c.code) })
	}
}

func TestPublishThatIsHeard(t *testing.T) {
	for name, c := range map[string]struct {
		x     impl.Topic
		value int
		next  impl.Topic
		lost  []int
	}{
		"nobody hears":               {topic(0), 5, topic(1), nil},
		"nobody hears the last":      {topic(999999), 5, topic(1000000), nil},
		"the last is heard":          {topic(999999, keeping(1, 1)), 5, topic(1000000, keeping(1, 1, 5)), nil},
		"the last, one loses":        {topic(999999, dropping(1, 1, 9, 4)), 5, topic(1000000, dropping(1, 1, 10, 5)), []int{1}},
		"one hears":                  {topic(3, keeping(1, 2, 4)), 5, topic(4, keeping(1, 2, 4, 5)), nil},
		"one that drops, with room":  {topic(3, dropping(1, 2, 6, 4)), 5, topic(4, dropping(1, 2, 6, 4, 5)), nil},
		"all of both kinds":          {topic(3, keeping(1, 2), dropping(2, 2, 0), keeping(7, 3, 8, 8)), 5, topic(4, keeping(1, 2, 5), dropping(2, 2, 0, 5), keeping(7, 3, 8, 8, 5)), nil},
		"up to Cap 20":               {topic(3, keeping(1, 20, countUp(0, 19)...)), 19, topic(4, keeping(1, 20, countUp(0, 20)...)), nil},
		"up to Cap 20, it drops":     {topic(3, dropping(1, 20, 0, countUp(0, 19)...)), 19, topic(4, dropping(1, 20, 0, countUp(0, 20)...)), nil},
		"beyond Cap 20":              {topic(3, dropping(1, 20, 0, countUp(0, 20)...)), 20, topic(4, dropping(1, 20, 1, countUp(1, 20)...)), []int{1}},
		"beyond Cap 1":               {topic(3, dropping(1, 1, 0, 4)), 5, topic(4, dropping(1, 1, 1, 5)), []int{1}},
		"one loses, others do not":   {topic(3, keeping(1, 2, 8), dropping(2, 2, 4, 6, 7), dropping(3, 3, 4, 6, 7)), 5, topic(4, keeping(1, 2, 8, 5), dropping(2, 2, 5, 7, 5), dropping(3, 3, 4, 6, 7, 5)), []int{2}},
		"all lose":                   {topic(3, dropping(-4, 1, 0, 6), dropping(0, 2, 1, 7, 8), dropping(9, 3, 2, 1, 2, 3)), 5, topic(4, dropping(-4, 1, 1, 5), dropping(0, 2, 2, 8, 5), dropping(9, 3, 3, 2, 3, 5)), []int{-4, 0, 9}},
		"the last that is counted":   {topic(3, dropping(1, 1, 999999, 4)), 5, topic(4, dropping(1, 1, 1000000, 5)), []int{1}},
		"one that is not counted":    {topic(3, dropping(1, 1, 1000000, 4)), 5, topic(4, dropping(1, 1, 1000000, 5)), []int{1}},
		"one is not counted, one is": {topic(3, dropping(1, 1, 1000000, 4), dropping(2, 2, 3, 6, 7)), 5, topic(4, dropping(1, 1, 1000000, 5), dropping(2, 2, 4, 7, 5)), []int{1, 2}},
		"at 1000000, with room":      {topic(3, dropping(1, 2, 1000000, 4)), 5, topic(4, dropping(1, 2, 1000000, 4, 5)), nil},
		"the value 0":                {topic(3, keeping(1, 2), dropping(2, 1, 0, 7)), 0, topic(4, keeping(1, 2, 0), dropping(2, 1, 1, 0)), []int{2}},
		"the least value":            {topic(3, keeping(1, 2, 4), dropping(2, 1, 0, 7)), math.MinInt, topic(4, keeping(1, 2, 4, math.MinInt), dropping(2, 1, 1, math.MinInt)), []int{2}},
		"the greatest value":         {topic(3, keeping(1, 2, 4), dropping(2, 1, 0, 7)), math.MaxInt, topic(4, keeping(1, 2, 4, math.MaxInt), dropping(2, 1, 1, math.MaxInt)), []int{2}},
		"the same value again":       {topic(3, keeping(1, 3, 5, 5), dropping(2, 2, 0, 5, 5)), 5, topic(4, keeping(1, 3, 5, 5, 5), dropping(2, 2, 1, 5, 5)), []int{2}},
		"the ends lose":              {topic(3, dropping(math.MinInt, 1, 0, 4), keeping(0, 1), dropping(math.MaxInt, 1, 0, 4)), 5, topic(4, dropping(math.MinInt, 1, 1, 5), keeping(0, 1, 5), dropping(math.MaxInt, 1, 1, 5)), []int{math.MinInt, math.MaxInt}},
	} {
		t.Run(name, func(t *testing.T) { expectCall(t, impl.Publish, in(c.x, c.value), c.next, c.lost, impl.TopicOk) })
	}
}

func TestPublishToTenAtOnce(t *testing.T) {
	x, next := topic(3), topic(4)
	var lost []int
	for k := range 10 {
		size := []int{1, 20}[k%2]
		x.Subs = append(x.Subs, dropping(k*k, size, k, countUp(k, size)...))
		next.Subs = append(next.Subs, dropping(k*k, size, k+1, append(countUp(k+1, size-1), -5)...))
		lost = append(lost, k*k)
	}
	expectCall(t, impl.Publish, in(x, -5), next, lost, impl.TopicOk)
	// Nobody hears it where one of them must wait, whichever it is.
	for k := range 10 {
		held := topic(3, slices.Clone(x.Subs)...)
		held.Subs[k].Drops, held.Subs[k].Dropped = false, 0
		expectCall(t, impl.Publish, in(held, -5), held, []int{k * k}, impl.TopicFull)
	}
}

func TestPublishForWhichOneWaits(t *testing.T) {
	for name, c := range map[string]struct {
		x    impl.Topic
		full []int
	}{
		"the only one":                      {topic(0, keeping(1, 1, 7)), []int{1}},
		"of Cap 20":                         {topic(3, keeping(1, 20, countUp(0, 20)...)), []int{1}},
		"one ahead of others with room":     {topic(3, keeping(1, 1, 7), keeping(2, 2), dropping(3, 2, 0, 8)), []int{1}},
		"one between others with room":      {topic(3, keeping(1, 3, 7), keeping(2, 2, 7, 8), dropping(3, 2, 0, 8)), []int{2}},
		"one behind others with room":       {topic(3, keeping(1, 3, 7), dropping(2, 2, 0, 8), keeping(3, 2, 7, 8)), []int{3}},
		"one behind others that drop":       {topic(3, dropping(1, 1, 4, 7), dropping(2, 2, 0, 8, 9), keeping(3, 1, 7)), []int{3}},
		"one ahead of others that drop":     {topic(3, keeping(0, 1, 7), dropping(1, 1, 4, 7), dropping(2, 2, 0, 8, 9)), []int{0}},
		"two, one between that drops":       {topic(3, keeping(-9, 1, 7), dropping(1, 1, 4, 7), keeping(8, 2, 8, 9)), []int{-9, 8}},
		"all of 3":                          {topic(3, keeping(2, 1, 7), keeping(5, 1, 6), keeping(7, 3, 5, 4, 3)), []int{2, 5, 7}},
		"the ends":                          {topic(3, keeping(math.MinInt, 1, 7), keeping(0, 2), keeping(math.MaxInt, 1, 8)), []int{math.MinInt, math.MaxInt}},
		"one that drops and counts no more": {topic(3, dropping(1, 1, 1000000, 7), keeping(2, 1, 7)), []int{2}},
		"the last that could be said":       {topic(999999, keeping(4, 1, 7)), []int{4}},
	} {
		t.Run(name, func(t *testing.T) {
			for _, value := range []int{math.MinInt, 0, 7, math.MaxInt} {
				expectCall(t, impl.Publish, in(c.x, value), c.x, c.full, impl.TopicFull)
			}
		})
	}
}

// What is all said is looked for ahead of those that wait.
func TestPublishWhereAllIsSaid(t *testing.T) {
	for _, subs := range [][]impl.Sub{
		nil,
		{keeping(1, 2, 7)},
		{keeping(1, 1, 7)},
		{dropping(1, 1, 0, 7)},
		{dropping(1, 1, 0, 7), keeping(2, 1, 7)},
		manySubs(0, 10),
	} {
		for _, value := range []int{math.MinInt, 0, 7, math.MaxInt} {
			expectCall(t, impl.Publish, in(topic(1000000, subs...), value), impl.Topic{}, []int{}, impl.TopicBad)
		}
	}
}

func TestHearNext(t *testing.T) {
	one, two, three := keeping(3, 2, 7, 8), dropping(6, 3, 5, 9), keeping(8, 4)
	some := topic(9, one, two, three)
	for name, c := range map[string]struct {
		x     impl.Topic
		id    int
		next  impl.Topic
		value int
		code  int
	}{
		"the first of two values":    {some, 3, topic(9, keeping(3, 2, 8), two, three), 7, impl.TopicOk},
		"the only value":             {some, 6, topic(9, one, dropping(6, 3, 5), three), 9, impl.TopicOk},
		"Cap 1":                      {topic(9, keeping(1, 1, 7)), 1, topic(9, keeping(1, 1)), 7, impl.TopicOk},
		"Cap 1, it drops":            {topic(9, dropping(1, 1, 4, 7)), 1, topic(9, dropping(1, 1, 4)), 7, impl.TopicOk},
		"20 values":                  {topic(9, keeping(1, 20, countUp(5, 20)...)), 1, topic(9, keeping(1, 20, countUp(6, 19)...)), 5, impl.TopicOk},
		"20 values, it drops":        {topic(9, dropping(1, 20, 4, countDown()[:20]...)), 1, topic(9, dropping(1, 20, 4, countDown()[1:20]...)), 29, impl.TopicOk},
		"fewer than Cap":             {topic(9, keeping(1, 20, 5, 6, 7)), 1, topic(9, keeping(1, 20, 6, 7)), 5, impl.TopicOk},
		"the value 0":                {topic(9, keeping(1, 2, 0, 7)), 1, topic(9, keeping(1, 2, 7)), 0, impl.TopicOk},
		"the least value":            {topic(9, keeping(1, 2, math.MinInt, 7)), 1, topic(9, keeping(1, 2, 7)), math.MinInt, impl.TopicOk},
		"the greatest value":         {topic(9, keeping(1, 2, math.MaxInt, 7)), 1, topic(9, keeping(1, 2, 7)), math.MaxInt, impl.TopicOk},
		"one value twice":            {topic(9, keeping(1, 3, 7, 7, 8)), 1, topic(9, keeping(1, 3, 7, 8)), 7, impl.TopicOk},
		"the least id":               {topic(9, keeping(math.MinInt, 2, 5), one), math.MinInt, topic(9, keeping(math.MinInt, 2), one), 5, impl.TopicOk},
		"the greatest id":            {topic(9, one, keeping(math.MaxInt, 2, 5)), math.MaxInt, topic(9, one, keeping(math.MaxInt, 2)), 5, impl.TopicOk},
		"the last of 10":             {topic(9, manySubs(0, 10)...), 9, topic(9, append(manySubs(0, 9), dropping(9, 2, 9))...), 90, impl.TopicOk},
		"where all is said":          {topic(1000000, one), 3, topic(1000000, keeping(3, 2, 8)), 7, impl.TopicOk},
		"nothing to hear":            {some, 8, some, 0, impl.TopicFull},
		"nothing to hear, it drops":  {topic(9, one, dropping(6, 3, 5)), 6, topic(9, one, dropping(6, 3, 5)), 0, impl.TopicFull},
		"nothing to hear, Cap 1":     {topic(0, keeping(0, 1)), 0, topic(0, keeping(0, 1)), 0, impl.TopicFull},
		"no Subs":                    {topic(9), 0, topic(9), 0, impl.TopicNone},
		"none, ahead of all":         {some, 2, some, 0, impl.TopicNone},
		"none, between two":          {some, 5, some, 0, impl.TopicNone},
		"none, between the last two": {some, 7, some, 0, impl.TopicNone},
		"none, behind all":           {some, 9, some, 0, impl.TopicNone},
		"none, the least":            {some, math.MinInt, some, 0, impl.TopicNone},
		"none, the greatest":         {some, math.MaxInt, some, 0, impl.TopicNone},
		"none, a place":              {some, 1, some, 0, impl.TopicNone},
	} {
		t.Run(name, func(t *testing.T) { expectCall(t, impl.HearNext, in(c.x, c.id), c.next, c.value, c.code) })
	}
}

func TestWaitingOn(t *testing.T) {
	for name, c := range map[string]struct {
		x   impl.Topic
		ids []int
	}{
		"no Subs":                    {topic(9), nil},
		"all have room":              {topic(9, manySubs(0, 10)...), nil},
		"one that drops is full":     {topic(9, dropping(1, 1, 4, 7)), nil},
		"one is full":                {topic(9, keeping(1, 1, 7)), []int{1}},
		"one has 19 of 20, one 20":   {topic(9, keeping(1, 20, countUp(0, 19)...), keeping(2, 20, countUp(0, 20)...)), []int{2}},
		"both kinds are full":        {topic(9, keeping(-3, 1, 7), dropping(1, 1, 4, 7), keeping(8, 2, 7, 8), keeping(9, 2, 7)), []int{-3, 8}},
		"the ends":                   {topic(9, keeping(math.MinInt, 1, 7), dropping(0, 1, 4, 7), keeping(math.MaxInt, 2, 7, 8)), []int{math.MinInt, math.MaxInt}},
		"where all is said":          {topic(1000000, keeping(4, 1, 7)), []int{4}},
		"where nothing is said":      {topic(0, keeping(0, 1, 0)), []int{0}},
		"Cap 1, empty":               {topic(9, keeping(1, 1), dropping(2, 1, 0)), nil},
		"far apart, in their places": {topic(9, keeping(1, 1, 7), keeping(2, 2, 7), keeping(30, 1, 7), keeping(400, 1), keeping(5000, 1, 7)), []int{1, 30, 5000}},
	} {
		t.Run(name, func(t *testing.T) { expectCall(t, impl.WaitingOn, in(c.x), c.ids, true) })
	}
	ten := topic(9)
	for k := range 10 {
		ten.Subs = append(ten.Subs, keeping(3*k, 2, k, k))
	}
	expectCall(t, impl.WaitingOn, in(ten), []int{0, 3, 6, 9, 12, 15, 18, 21, 24, 27}, true)
}

func TestEmptyListsInATopic(t *testing.T) {
	for _, x := range []impl.Topic{{}, {Subs: []impl.Sub{}}, {Subs: make([]impl.Sub, 0, 5)}} {
		one, _ := impl.Subscribe(x, 4, 1, true)
		said, lost, _ := impl.Publish(x, 5)
		same, unheard, none := impl.Unsubscribe(x, 4)
		gone, left, _ := impl.Unsubscribe(one, 4)
		still, _, empty := impl.HearNext(one, 4)
		ids, _ := impl.WaitingOn(x)
		if none != impl.TopicNone || empty != impl.TopicFull || said.Subs != nil || same.Subs != nil || gone.Subs != nil {
			t.Errorf("%#v %#v %#v", said, same, gone)
		}
		if lost != nil || unheard != nil || left != nil || ids != nil || one.Subs[0].Queue != nil || still.Subs[0].Queue != nil {
			t.Errorf("%#v %#v %#v %#v %#v %#v", lost, unheard, left, ids, one, still)
		}
	}
}

// Queues may lie behind one another in one memory: what is put behind one of them must not run into the next.
func TestTopicInOneMemory(t *testing.T) {
	values := countUp(1, 6)
	subs := []impl.Sub{
		{Id: 1, Cap: 3, Queue: values[:2]},
		{Id: 2, Cap: 2, Drops: true, Queue: values[2:4]},
		{Id: 3, Cap: 5, Queue: values[4:5]},
		{Id: 4, Cap: 5, Queue: values[5:]},
	}
	x := impl.Topic{Subs: subs[:3]}
	said, lost, _ := impl.Publish(x, 9)
	heard, first, _ := impl.HearNext(x, 1)
	left, unheard, _ := impl.Unsubscribe(x, 2)
	joined, _ := impl.Subscribe(x, 0, 1, false)
	if !slices.Equal(values, countUp(1, 6)) || !slices.Equal(modelSubIds(subs), countUp(1, 4)) {
		t.Error("written into:", values, subs)
	}
	one, two, three := keeping(1, 3, 1, 2), dropping(2, 2, 0, 3, 4), keeping(3, 5, 5)
	for _, c := range []struct{ got, want impl.Topic }{
		{said, topic(1, keeping(1, 3, 1, 2, 9), dropping(2, 2, 1, 4, 9), keeping(3, 5, 5, 9))},
		{heard, topic(0, keeping(1, 3, 2), two, three)},
		{left, topic(0, one, three)},
		{joined, topic(0, keeping(0, 1), one, two, three)},
	} {
		if !sameValues([]any{c.got}, []any{c.want}) {
			t.Errorf("%+v, not %+v", c.got, c.want)
		}
	}
	if !slices.Equal(lost, []int{2}) || first != 1 || !slices.Equal(unheard, []int{3, 4}) {
		t.Error(lost, first, unheard)
	}
}

// One queue may be handed in as two: each of the answer is on its own.
func TestOneQueueForTwo(t *testing.T) {
	both := []int{7, 8}
	x := topic(3, keeping(1, 3, both...), dropping(2, 2, 0, both...))
	expectApart := func(next impl.Topic) {
		t.Helper()
		next.Subs[0].Queue[0] = -1
		if next.Subs[1].Queue[0] == -1 || both[0] == -1 {
			t.Errorf("memory is shared: %+v, %v", next, both)
		}
	}
	said, _, _ := impl.Publish(x, 9)
	expectApart(said)
	heard, _, _ := impl.HearNext(x, 1)
	expectApart(heard)
	joined, _ := impl.Subscribe(x, 9, 1, true)
	expectApart(joined)
	same, _, _ := impl.Unsubscribe(x, 99)
	expectApart(same)
}

func expectTopicModel(t *testing.T, x impl.Topic, ids, sizes, values []int, codes map[int]int) {
	t.Helper()
	expectCall(t, impl.GoodTopic, in(x), modelGoodTopic(x))
	full, yes := modelWaitingOn(x)
	expectCall(t, impl.WaitingOn, in(x), full, yes)
	for _, value := range values {
		next, told, code := modelPublish(x, value)
		expectCall(t, impl.Publish, in(x, value), next, told, code)
		codes[code]++
	}
	for _, id := range ids {
		next, unheard, code := modelUnsubscribe(x, id)
		expectCall(t, impl.Unsubscribe, in(x, id), next, unheard, code)
		codes[code]++
		next, value, code := modelHearNext(x, id)
		expectCall(t, impl.HearNext, in(x, id), next, value, code)
		codes[code]++
		for k, size := range sizes {
			next, code := modelSubscribe(x, id, size, (k+id)%2 == 0)
			expectCall(t, impl.Subscribe, in(x, id, size, (k+id)%2 == 0), next, code)
			codes[code]++
		}
	}
}

func TestTheTopicTablesAgainstTheModel(t *testing.T) {
	codes := map[int]int{}
	all := goodTopics()
	maps.Copy(all, badTopics())
	for name, x := range all {
		t.Run(name, func(t *testing.T) {
			expectTopicModel(t, x, []int{1, 3, 4, 99}, []int{0, 1, 20, 21}, []int{5, math.MinInt}, codes)
		})
	}
	expectMet(t, codes, 10, impl.TopicOk, impl.TopicBad, impl.TopicTwice, impl.TopicFull, impl.TopicNone)
}

func smallSubs(ids ...int) []impl.Sub {
	var kinds []impl.Sub
	for _, id := range ids {
		for size := range 3 {
			for _, queue := range listsOf([]int{5}, 3) {
				kinds = append(kinds, keeping(id, size, queue...))
				for _, dropped := range []int{-1, 0, 1, 1000000, 1000001} {
					kinds = append(kinds, dropping(id, size, dropped, queue...))
				}
				kinds = append(kinds, impl.Sub{Id: id, Cap: size, Dropped: 1, Queue: queue})
			}
		}
	}
	return kinds
}

func TestAllSmallTopics(t *testing.T) {
	met, codes := 0, map[int]int{}
	for _, subs := range listsOf(smallSubs(0, 7), 2) {
		for _, said := range []int{-1, 0, 999999, 1000000, 1000001} {
			x := topic(said, subs...)
			if got := impl.GoodTopic(x); got != modelGoodTopic(x) {
				t.Fatalf("GoodTopic of %+v: %v", x, got)
			}
			if modelGoodTopic(x) {
				met++
				expectTopicModel(t, x, []int{-1, 0, 7, 8}, []int{0, 1, 20}, []int{6}, codes)
			}
		}
	}
	// Each id has Cap 1 with 0 or 1 values and Cap 2 with 0, 1 or 2: 5 ways, each with one that keeps and three that drop.
	if want := 3 * (1 + 2*20 + 20*20); met != want {
		t.Errorf("not all good topics were met: %d of %d", met, want)
	}
	expectMet(t, codes, 100, impl.TopicOk, impl.TopicBad, impl.TopicTwice, impl.TopicFull, impl.TopicNone)
}

func TestAllGoodTopicsOfThree(t *testing.T) {
	ids, met, codes := []int{-2, 5, 6}, 0, map[int]int{}
	kinds := func(id int) []impl.Sub {
		return []impl.Sub{keeping(id, 1), keeping(id, 1, 3), keeping(id, 2, 3), keeping(id, 2, 3, 4), dropping(id, 1, 0), dropping(id, 1, 1000000, 3), dropping(id, 2, 1, 3, 4)}
	}
	for _, first := range kinds(ids[0]) {
		for _, second := range kinds(ids[1]) {
			for _, third := range kinds(ids[2]) {
				for _, order := range [][]impl.Sub{{first, second, third}, {second, first, third}, {first, third, second}} {
					x := topic(4, order...)
					if impl.GoodTopic(x) || modelGoodTopic(x) {
						met++
						expectTopicModel(t, x, []int{-3, -2, 0, 5, 6, 7}, []int{1}, []int{9}, codes)
					}
				}
			}
		}
	}
	if met != 343 {
		t.Error("not all good topics were met:", met)
	}
	expectMet(t, codes, 100, impl.TopicOk, impl.TopicTwice, impl.TopicFull, impl.TopicNone)
}
