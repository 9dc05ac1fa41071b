package tests

import (
	"math"
	"slices"
	"testing"

	"loop.example/g00145/impl"
)

func room(size, used int, waiting ...impl.Need) impl.Room {
	return impl.Room{Size: size, Used: used, Waiting: waiting}
}

func need(task, many int) impl.Need { return impl.Need{Task: task, Many: many} }

// needs are those tasks, each of which needs that many.
func needs(many int, tasks ...int) []impl.Need {
	var list []impl.Need
	for _, task := range tasks {
		list = append(list, need(task, many))
	}
	return list
}

func goodRooms() map[string]impl.Room {
	return map[string]impl.Room{
		"the least":                   room(1, 0),
		"an empty list":               {Size: 1, Waiting: []impl.Need{}},
		"the least, full":             room(1, 1),
		"the least, one waits":        room(1, 1, need(4, 1)),
		"the greatest":                room(1000, 0),
		"the greatest, full":          room(1000, 1000),
		"the greatest, one waits":     room(1000, 1000, need(4, 1000)),
		"some used":                   room(7, 3),
		"all is needed, one used":     room(7, 1, need(4, 7)),
		"the first just has no room":  room(7, 4, need(4, 4)),
		"one behind would have room":  room(7, 4, need(4, 4), need(5, 1), need(6, 3)),
		"the first and the last task": room(3, 2, need(0, 2), need(29, 3)),
		"one less than MaxTasks":      room(3, 3, needs(1, countUp(1, 29)...)...),
		"MaxTasks":                    room(3, 3, needs(1, countUp(0, 30)...)...),
		"MaxTasks, each needs it all": room(1000, 1, needs(1000, countDown()...)...),
		"the first one needs more":    room(10, 6, append([]impl.Need{need(29, 5)}, needs(1, countUp(0, 29)...)...)...),
		"one unit free, all need two": room(1000, 999, needs(2, countUp(0, 30)...)...),
		"the greatest, all but one":   room(1000, 999, need(1, 2), need(2, 1)),
		"nothing used, nobody waits":  room(12, 0),
		"all used, several that wait": room(4, 4, need(9, 1), need(8, 4), need(7, 2)),
	}
}

func badRooms() map[string]impl.Room {
	rooms := map[string]impl.Room{
		"nothing":                         {},
		"Size below 1":                    room(0, 0),
		"Size below 0":                    room(-1, 0),
		"Size far below":                  room(math.MinInt, 0),
		"Size above the greatest":         room(1001, 0),
		"Size far above":                  room(math.MaxInt, 0),
		"Used below 0":                    room(5, -1),
		"Used far below":                  room(5, math.MinInt),
		"Used above Size":                 room(5, 6),
		"Used above the greatest Size":    room(1000, 1001),
		"Used far above":                  room(5, math.MaxInt),
		"Used and Size below 0":           room(-2, -2),
		"Used below 0, somebody waits":    room(5, -1, need(4, 5)),
		"the first one has room":          room(7, 4, need(4, 3)),
		"the first one has more":          room(7, 0, need(4, 1)),
		"the first one has just all":      room(7, 0, need(4, 7)),
		"the first has room, others not":  room(7, 4, need(4, 3), need(5, 7)),
		"MaxTasks, the first has room":    room(3, 2, needs(1, countUp(0, 30)...)...),
		"Many 0":                          room(5, 5, need(4, 0)),
		"Many below 0":                    room(5, 5, need(4, -1)),
		"Many the least int":              room(5, 5, need(4, math.MinInt)),
		"Many above Size":                 room(5, 5, need(4, 6)),
		"Many above Size, nothing used":   room(5, 0, need(4, 6)),
		"Many the greatest int":           room(5, 5, need(4, math.MaxInt)),
		"Many 0 in the midst":             room(5, 5, need(4, 1), need(5, 0), need(6, 1)),
		"Many above Size as the last":     room(5, 5, need(4, 1), need(5, 1), need(6, 6)),
		"Many above the greatest Size":    room(1000, 1000, need(4, 1001)),
		"the last of MaxTasks has Many 0": room(5, 5, append(needs(1, countUp(0, 29)...), need(29, 0))...),
	}
	for name, line := range badLines() {
		rooms[name] = room(5, 5, needs(1, line...)...)
		rooms[name+", it is too much"] = room(5, 4, needs(2, line...)...)
	}
	return rooms
}

func TestGoodRoom(t *testing.T) {
	for name, r := range goodRooms() {
		t.Run(name, func(t *testing.T) { expectCall(t, impl.GoodRoom, in(r), true) })
	}
	for name, r := range badRooms() {
		t.Run(name, func(t *testing.T) { expectCall(t, impl.GoodRoom, in(r), false) })
	}
}

// badNeeds are no needs of any room: no task, or Many beyond what may be told.
func badNeeds() []impl.Need {
	list := []impl.Need{need(4, 0), need(4, -1), need(4, math.MinInt), need(4, 1000001), need(4, math.MaxInt), need(-1, 0)}
	for _, task := range strangeTasks {
		list = append(list, need(task, 1), need(task, 1000000))
	}
	return list
}

func TestBadRoomIsRefused(t *testing.T) {
	asked := append([]impl.Need{need(0, 1), need(29, 5), need(4, 1), need(4, 1000000)}, badNeeds()...)
	for name, r := range badRooms() {
		t.Run(name, func(t *testing.T) {
			for _, n := range asked {
				expectCall(t, impl.TakeRoom, in(r, n), impl.Room{}, impl.SyncBad)
			}
			for _, many := range []int{math.MinInt, -1, 0, 1, 5, 6, 1000, 1001, math.MaxInt} {
				expectCall(t, impl.GiveRoom, in(r, many), impl.Room{}, []int{}, impl.SyncBad)
			}
			for _, task := range append([]int{0, 1, 4, 29}, strangeTasks...) {
				expectCall(t, impl.LeaveRoom, in(r, task), impl.Room{}, []int{}, impl.SyncBad)
			}
		})
	}
}

func TestBadNeedsAreRefused(t *testing.T) {
	for name, r := range goodRooms() {
		t.Run(name, func(t *testing.T) {
			for _, n := range badNeeds() {
				expectCall(t, impl.TakeRoom, in(r, n), impl.Room{}, impl.SyncBad)
			}
			for _, many := range []int{math.MinInt, -1, r.Size + 1, 1001, math.MaxInt} {
				expectCall(t, impl.GiveRoom, in(r, many), impl.Room{}, []int{}, impl.SyncBad)
			}
			for _, task := range strangeTasks {
				expectCall(t, impl.LeaveRoom, in(r, task), impl.Room{}, []int{}, impl.SyncBad)
			}
		})
	}
}

func TestTakeRoom(t *testing.T) {
	busy := room(7, 4, need(4, 4), need(5, 1))
	full := room(3, 3, needs(1, countUp(0, 30)...)...)
	for name, c := range map[string]struct {
		r    impl.Room
		n    impl.Need
		next impl.Room
		code int
	}{
		"one":                               {room(7, 0), need(4, 1), room(7, 1), impl.SyncDone},
		"all":                               {room(7, 0), need(4, 7), room(7, 7), impl.SyncDone},
		"all of the least":                  {room(1, 0), need(0, 1), room(1, 1), impl.SyncDone},
		"all of the greatest":               {room(1000, 0), need(29, 1000), room(1000, 1000), impl.SyncDone},
		"just has room":                     {room(7, 4), need(4, 3), room(7, 7), impl.SyncDone},
		"just has not":                      {room(7, 4), need(4, 4), room(7, 4, need(4, 4)), impl.SyncWaits},
		"nothing is free":                   {room(7, 7), need(4, 1), room(7, 7, need(4, 1)), impl.SyncWaits},
		"all, one is used":                  {room(7, 1), need(4, 7), room(7, 1, need(4, 7)), impl.SyncWaits},
		"there is room but somebody waits":  {busy, need(6, 1), room(7, 4, need(4, 4), need(5, 1), need(6, 1)), impl.SyncWaits},
		"just room but somebody waits":      {busy, need(0, 3), room(7, 4, need(4, 4), need(5, 1), need(0, 3)), impl.SyncWaits},
		"behind the others":                 {busy, need(29, 7), room(7, 4, need(4, 4), need(5, 1), need(29, 7)), impl.SyncWaits},
		"behind all others":                 {room(3, 3, needs(1, countUp(1, 29)...)...), need(0, 2), room(3, 3, append(needs(1, countUp(1, 29)...), need(0, 2))...), impl.SyncWaits},
		"one above Size":                    {room(7, 0), need(4, 8), room(7, 0), impl.SyncBelow},
		"one above Size, somebody waits":    {busy, need(6, 8), busy, impl.SyncBelow},
		"above Size, waits already":         {busy, need(4, 8), busy, impl.SyncBelow},
		"above Size, MaxTasks wait":         {full, need(4, 4), full, impl.SyncBelow},
		"above the greatest Size":           {room(1000, 0), need(4, 1001), room(1000, 0), impl.SyncBelow},
		"the greatest need":                 {room(1000, 0), need(4, 1000000), room(1000, 0), impl.SyncBelow},
		"one above the greatest need":       {room(1000, 0), need(4, 1000001), impl.Room{}, impl.SyncBad},
		"waits already as the first":        {busy, need(4, 4), busy, impl.SyncBusy},
		"waits already, now there is room":  {busy, need(4, 3), busy, impl.SyncBusy},
		"waits already as the last":         {busy, need(5, 7), busy, impl.SyncBusy},
		"MaxTasks wait":                     {full, need(17, 3), full, impl.SyncBusy},
		"no task":                           {busy, need(30, 1), impl.Room{}, impl.SyncBad},
		"no task, above Size":               {busy, need(-1, 8), impl.Room{}, impl.SyncBad},
		"nothing":                           {busy, need(6, 0), impl.Room{}, impl.SyncBad},
		"nothing, waits already":            {busy, need(4, 0), impl.Room{}, impl.SyncBad},
		"a room that is bad, just above it": {room(7, 4, need(4, 3)), need(5, 8), impl.Room{}, impl.SyncBad},
	} {
		t.Run(name, func(t *testing.T) { expectCall(t, impl.TakeRoom, in(c.r, c.n), c.next, c.code) })
	}
}

type roomCase struct {
	r     impl.Room
	arg   int
	next  impl.Room
	woken []int
	code  int
}

func TestGiveRoom(t *testing.T) {
	line := room(7, 7, need(4, 2), need(9, 3), need(1, 3), need(2, 1))
	for name, c := range map[string]roomCase{
		"nothing":                            {room(7, 4), 0, room(7, 4), nil, impl.SyncDone},
		"nothing of nothing":                 {room(7, 0), 0, room(7, 0), nil, impl.SyncDone},
		"nothing, somebody waits":            {line, 0, line, nil, impl.SyncDone},
		"one":                                {room(7, 4), 1, room(7, 3), nil, impl.SyncDone},
		"all that is used":                   {room(7, 4), 4, room(7, 0), nil, impl.SyncDone},
		"Size":                               {room(7, 7), 7, room(7, 0), nil, impl.SyncDone},
		"the greatest Size":                  {room(1000, 1000), 1000, room(1000, 0), nil, impl.SyncDone},
		"one above Used":                     {room(7, 4), 5, room(7, 4), nil, impl.SyncBelow},
		"one above Used, somebody waits":     {room(7, 4, need(5, 4), need(6, 1)), 5, room(7, 4, need(5, 4), need(6, 1)), nil, impl.SyncBelow},
		"one of nothing":                     {room(7, 0), 1, room(7, 0), nil, impl.SyncBelow},
		"Size, one less is used":             {room(7, 6), 7, room(7, 6), nil, impl.SyncBelow},
		"one above Size":                     {room(7, 7), 8, impl.Room{}, nil, impl.SyncBad},
		"one above Size, somebody waits":     {line, 8, impl.Room{}, nil, impl.SyncBad},
		"below 0":                            {line, -1, impl.Room{}, nil, impl.SyncBad},
		"the first just has not":             {line, 1, room(7, 6, line.Waiting...), nil, impl.SyncDone},
		"the first just has room":            {line, 2, room(7, 7, line.Waiting[1:]...), []int{4}, impl.SyncDone},
		"the second just has not":            {line, 4, room(7, 5, line.Waiting[1:]...), []int{4}, impl.SyncDone},
		"the second just has room":           {line, 5, room(7, 7, line.Waiting[2:]...), []int{4, 9}, impl.SyncDone},
		"one behind that must stay":          {line, 7, room(7, 5, line.Waiting[2:]...), []int{4, 9}, impl.SyncDone},
		"all that wait":                      {room(9, 9, line.Waiting...), 9, room(9, 9), []int{4, 9, 1, 2}, impl.SyncDone},
		"all, and some is left":              {room(12, 12, line.Waiting...), 11, room(12, 10), []int{4, 9, 1, 2}, impl.SyncDone},
		"the first needs all":                {room(5, 1, need(3, 5), need(4, 1)), 1, room(5, 5, need(4, 1)), []int{3}, impl.SyncDone},
		"MaxTasks go":                        {room(30, 30, needs(1, countDown()...)...), 30, room(30, 30), countDown(), impl.SyncDone},
		"all but one of MaxTasks go":         {room(30, 30, needs(1, countDown()...)...), 29, room(30, 30, need(0, 1)), countDown()[:29], impl.SyncDone},
		"nobody passes the first":            {room(1000, 1000, need(8, 1000), need(9, 1)), 999, room(1000, 1, need(8, 1000), need(9, 1)), nil, impl.SyncDone},
		"many in a greatest room":            {room(1000, 1000, need(8, 999), need(9, 1)), 1000, room(1000, 1000), []int{8, 9}, impl.SyncDone},
		"a room that is bad, above its Used": {room(7, 8), 8, impl.Room{}, nil, impl.SyncBad},
	} {
		t.Run(name, func(t *testing.T) { expectCall(t, impl.GiveRoom, in(c.r, c.arg), c.next, c.woken, c.code) })
	}
}

func TestLeaveRoom(t *testing.T) {
	line := room(7, 4, need(4, 5), need(9, 2), need(1, 1), need(2, 1))
	tight := room(7, 4, need(4, 5), need(9, 4), need(1, 1))
	for name, c := range map[string]roomCase{
		"nobody waits":                  {room(7, 4), 4, room(7, 4), nil, impl.SyncBelow},
		"one that does not wait":        {line, 5, line, nil, impl.SyncBelow},
		"the first task does not wait":  {line, 0, line, nil, impl.SyncBelow},
		"the last task does not wait":   {line, 29, line, nil, impl.SyncBelow},
		"no task":                       {line, 30, impl.Room{}, nil, impl.SyncBad},
		"below the tasks":               {room(7, 4), -1, impl.Room{}, nil, impl.SyncBad},
		"the only one":                  {room(7, 4, need(4, 5)), 4, room(7, 4), nil, impl.SyncDone},
		"the first, others go":          {line, 4, room(7, 7, need(2, 1)), []int{9, 1}, impl.SyncDone},
		"the first, the next has not":   {tight, 4, room(7, 4, need(9, 4), need(1, 1)), nil, impl.SyncDone},
		"the first, the next just has":  {room(7, 4, need(4, 5), need(9, 3), need(1, 1)), 4, room(7, 7, need(1, 1)), []int{9}, impl.SyncDone},
		"the first, all others go":      {room(9, 4, need(4, 6), need(29, 2), need(0, 3)), 4, room(9, 9), []int{29, 0}, impl.SyncDone},
		"one in the middle":             {line, 9, room(7, 4, need(4, 5), need(1, 1), need(2, 1)), nil, impl.SyncDone},
		"the last one":                  {line, 2, room(7, 4, need(4, 5), need(9, 2), need(1, 1)), nil, impl.SyncDone},
		"the first of MaxTasks":         {room(1, 1, needs(1, countUp(0, 30)...)...), 0, room(1, 1, needs(1, countUp(1, 29)...)...), nil, impl.SyncDone},
		"the last of MaxTasks":          {room(1, 1, needs(1, countUp(0, 30)...)...), 29, room(1, 1, needs(1, countUp(0, 29)...)...), nil, impl.SyncDone},
		"the first, 29 go":              {room(30, 1, append([]impl.Need{need(29, 30)}, needs(1, countUp(0, 29)...)...)...), 29, room(30, 30), countUp(0, 29), impl.SyncDone},
		"a room that is bad, of nobody": {room(7, 4, need(4, 3)), 5, impl.Room{}, nil, impl.SyncBad},
	} {
		t.Run(name, func(t *testing.T) { expectCall(t, impl.LeaveRoom, in(c.r, c.arg), c.next, c.woken, c.code) })
	}
}

func TestEmptyListsInARoom(t *testing.T) {
	for _, waiting := range [][]impl.Need{nil, {}, make([]impl.Need, 0, 5)} {
		empty := impl.Room{Size: 3, Used: 2, Waiting: waiting}
		taken, _ := impl.TakeRoom(empty, need(1, 1))
		given, woken, _ := impl.GiveRoom(empty, 1)
		if taken.Waiting != nil || given.Waiting != nil || woken != nil {
			t.Errorf("%#v %#v %#v", taken, given, woken)
		}
	}
}

func expectRoomModel(t *testing.T, r impl.Room, asked []impl.Need, given, tasks []int, codes map[int]int) {
	t.Helper()
	expectCall(t, impl.GoodRoom, in(r), modelGoodRoom(r))
	for _, n := range asked {
		next, code := modelTakeRoom(r, n)
		expectCall(t, impl.TakeRoom, in(r, n), next, code)
		codes[code]++
	}
	for _, many := range given {
		next, woken, code := modelGiveRoom(r, many)
		expectCall(t, impl.GiveRoom, in(r, many), next, woken, code)
		codes[code]++
	}
	for _, task := range tasks {
		next, woken, code := modelLeaveRoom(r, task)
		expectCall(t, impl.LeaveRoom, in(r, task), next, woken, code)
		codes[code]++
	}
}

func TestAllSmallRooms(t *testing.T) {
	var kinds []impl.Need
	for _, task := range []int{0, 29, 30} {
		for many := range 5 {
			kinds = append(kinds, need(task, many))
		}
	}
	met, codes := 0, map[int]int{}
	for _, waiting := range listsOf(kinds, 2) {
		for size := range 4 {
			for used := -1; used <= 4; used++ {
				r := room(size, used, waiting...)
				if got := impl.GoodRoom(r); got != modelGoodRoom(r) {
					t.Fatalf("GoodRoom of %+v: %v", r, got)
				}
				if modelGoodRoom(r) {
					met++
					expectRoomModel(t, r, []impl.Need{need(0, 1), need(3, 1), need(3, 2), need(3, 3), need(29, 4)}, []int{-1, 0, 1, 2, 3, 4}, []int{-1, 0, 3, 29}, codes)
				}
			}
		}
	}
	// Of Size 1, 2 and 3 nobody waits in 2, 3 and 4; one waits in 2, 6 and 12; two wait in 2, 12 and 36.
	if met != 79 {
		t.Error("not all good rooms were met:", met)
	}
	expectMet(t, codes, 10, impl.SyncDone, impl.SyncWaits, impl.SyncBad, impl.SyncBelow, impl.SyncBusy)
}

// anyGoodRoom has somebody waiting more often than not; the needs behind the first are small in half of them, so that several go at once.
func (r *turns) anyGoodRoom() impl.Room {
	made := impl.Room{Size: []int{1, 2 + r.next(9), 1 + r.next(1000), 1000}[r.next(4)]}
	made.Used = []int{0, r.next(made.Size + 1), made.Size}[r.next(3)]
	if made.Used == 0 {
		return made
	}
	free, most := made.Size-made.Used, made.Size
	if r.next(2) == 0 {
		most = 1 + made.Size/10
	}
	for _, task := range r.anyTasks([]int{0, 1, r.next(6), r.next(31), 30}[r.next(5)]) {
		many := 1 + r.next(most)
		if len(made.Waiting) == 0 {
			many = free + 1 + r.next(made.Used)
		}
		made.Waiting = append(made.Waiting, need(task, many))
	}
	return made
}

func TestManyGoodRooms(t *testing.T) {
	r, codes, several := turns(555), map[int]int{}, 0
	for range 1000 {
		one := r.anyGoodRoom()
		if !impl.GoodRoom(one) {
			t.Fatalf("%+v is not good", one)
		}
		first := r.next(30)
		if len(one.Waiting) > 0 {
			first = one.Waiting[0].Task
		}
		expectRoomModel(t, one, []impl.Need{need(r.next(30), 1+r.next(one.Size)), need(r.next(30), 1+r.next(1200))}, []int{one.Used, r.next(one.Size + 2)}, []int{first, r.next(30)}, codes)
		if _, woken, _ := impl.GiveRoom(one, one.Used); len(woken) > 1 {
			several++
		}
	}
	expectMet(t, codes, 50, impl.SyncDone, impl.SyncWaits, impl.SyncBelow, impl.SyncBusy)
	if several < 100 {
		t.Error("several went at once too seldom:", several)
	}
}

// Promise 14: rooms of any numbers.
func TestAnyRoomIsAnswered(t *testing.T) {
	r, codes := turns(5514), map[int]int{}
	for range 1000 {
		one := impl.Room{Size: r.anyInt(), Used: r.anyInt()}
		for range r.next(2) * r.next(40) / (1 + r.next(10)) {
			one.Waiting = append(one.Waiting, need(r.anyInt(), r.anyInt()))
		}
		expectRoomModel(t, one, []impl.Need{need(r.anyInt(), r.anyInt()), need(r.wideInt(), r.wideInt())}, []int{r.anyInt(), r.wideInt()}, []int{r.anyInt(), r.wideInt()}, codes)
	}
}

// What is answered is good wherever it is not SyncBad, whatever was done.
func TestAnswersAreGoodRooms(t *testing.T) {
	r := turns(5555)
	for range 3000 {
		one := r.anyGoodRoom()
		taken, _ := impl.TakeRoom(one, need(r.next(30), 1+r.next(1100)))
		given, _, _ := impl.GiveRoom(one, r.next(one.Size+1))
		left, _, _ := impl.LeaveRoom(one, r.next(30))
		for _, next := range []impl.Room{taken, given, left} {
			if !impl.GoodRoom(next) || next.Size != one.Size || slices.ContainsFunc(next.Waiting, func(n impl.Need) bool { return n.Many > one.Size }) {
				t.Fatalf("of %+v: %+v", one, next)
			}
		}
	}
}
