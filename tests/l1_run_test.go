package tests

import (
	"math"
	"slices"
	"strconv"
	"testing"

	"loop.example/g00145/impl"
)

// fullBoard has MaxTasks tasks, all of them ready in the order of their ids.
func fullBoard() impl.Board {
	var b impl.Board
	for id := range 30 {
		b.Tasks = append(b.Tasks, ready(id))
		b.Queue = append(b.Queue, id)
	}
	return b
}

func TestBoardConstants(t *testing.T) {
	got := []int{impl.MaxTasks, impl.TaskReady, impl.TaskRuns, impl.TaskParked, impl.TaskDone,
		impl.RunOk, impl.RunBad, impl.RunNone, impl.RunBusy, impl.RunState, impl.RunFull}
	if want := []int{30, 1, 2, 3, 4, 0, 1, 2, 3, 4, 5}; !slices.Equal(got, want) {
		t.Error(got, want)
	}
}

func goodBoards() map[string]impl.Board {
	return map[string]impl.Board{
		"nothing":                     {},
		"empty lists":                 {Tasks: []impl.Task{}, Queue: []int{}},
		"one ready":                   board([]int{0}, ready(0)),
		"passed at its most":          board([]int{0}, ready(1000000)),
		"any order":                   board([]int{2, 0, 1}, ready(3), ready(2), ready(1)),
		"one runs":                    board(nil, runs),
		"none runs":                   board(nil, parked, done),
		"each state":                  board([]int{0}, ready(9), runs, parked, done),
		"MaxTasks ready":              fullBoard(),
		"MaxTasks done, nobody ready": {Tasks: slices.Repeat([]impl.Task{done}, 30)},
	}
}

func badBoards() map[string]impl.Board {
	tooMany := fullBoard()
	tooMany.Tasks, tooMany.Queue = append(tooMany.Tasks, ready(0)), append(tooMany.Queue, 30)
	twiceInFull := fullBoard()
	twiceInFull.Queue[29] = 0
	return map[string]impl.Board{
		"more than MaxTasks, ready":         tooMany,
		"more than MaxTasks, done":          {Tasks: slices.Repeat([]impl.Task{done}, 31)},
		"state 0":                           board(nil, impl.Task{}),
		"state 0, queued":                   board([]int{0}, impl.Task{}),
		"state 5":                           board(nil, impl.Task{State: 5}),
		"state below 0":                     board(nil, impl.Task{State: -1}),
		"state least int":                   board(nil, impl.Task{State: math.MinInt}),
		"state greatest int":                board(nil, impl.Task{State: math.MaxInt}),
		"the last one's state":              board([]int{0}, ready(0), parked, impl.Task{State: 5}),
		"two run":                           board(nil, runs, runs),
		"two run, apart":                    board([]int{1}, runs, ready(0), parked, runs),
		"ready, not queued":                 board(nil, ready(0)),
		"one of two ready not queued":       board([]int{1}, ready(0), ready(0)),
		"queued twice":                      board([]int{0, 0}, ready(0)),
		"queued twice in another's place":   board([]int{0, 0}, ready(0), ready(0)),
		"queued twice beside another":       board([]int{0, 1, 0}, ready(0), ready(0)),
		"queued twice, all ready":           twiceInFull,
		"queued, runs":                      board([]int{0}, runs),
		"queued, parked":                    board([]int{0, 1}, ready(0), parked),
		"queued, done":                      board([]int{1, 0}, ready(0), done),
		"queued in a ready one's place":     board([]int{1}, ready(0), parked),
		"queued, no task":                   board([]int{0}),
		"queued, just beyond the last":      board([]int{0, 1}, ready(0)),
		"queued beyond, one ready missing":  board([]int{1}, ready(0)),
		"queued below 0":                    board([]int{0, -1}, ready(0)),
		"queued below 0, one ready missing": board([]int{-1}, ready(0)),
		"queued least int":                  board([]int{math.MinInt}, ready(0)),
		"queued greatest int":               board([]int{math.MaxInt}, ready(0)),
		"queued beyond MaxTasks":            board([]int{0, 31, 32}, ready(0), parked, done),
		"passed below 0":                    board([]int{0}, ready(-1)),
		"passed above its most":             board([]int{0}, ready(1000001)),
		"passed least int":                  board([]int{0}, ready(math.MinInt)),
		"passed greatest int":               board([]int{0}, ready(math.MaxInt)),
		"passed of one that runs":           board(nil, impl.Task{State: impl.TaskRuns, Passed: 1}),
		"passed of one that is parked":      board(nil, impl.Task{State: impl.TaskParked, Passed: 1}),
		"passed of one that is done":        board(nil, impl.Task{State: impl.TaskDone, Passed: 1}),
		"passed below 0, done":              board(nil, impl.Task{State: impl.TaskDone, Passed: -1}),
		"a million of both":                 {Tasks: make([]impl.Task, 1000000), Queue: make([]int, 1000000)},
		"a million queued":                  board(make([]int, 1000000), ready(0)),
	}
}

func TestGoodBoard(t *testing.T) {
	for name, b := range goodBoards() {
		t.Run(name, func(t *testing.T) { expectAnswer(t, goodCall, b, boardAnswer{yes: true}) })
	}
	for name, b := range badBoards() {
		t.Run(name, func(t *testing.T) { expectAnswer(t, goodCall, b, boardAnswer{}) })
	}
}

// RunBad comes ahead of all other codes, with the zero board and the id 0.
func TestBadBoardIsRefused(t *testing.T) {
	for name, b := range badBoards() {
		t.Run(name, func(t *testing.T) {
			calls := changingCalls()
			if len(b.Tasks) > 100 || len(b.Queue) > 100 {
				calls = []boardCall{spawnCall, pickCall(1), yieldCall, parkCall, endCall, wakeCall(0), killCall(0)}
			}
			for _, c := range calls {
				expectAnswer(t, c, b, boardAnswer{code: impl.RunBad})
			}
			expectAnswer(t, mostCall, b, boardAnswer{})
		})
	}
}

func TestSpawnTask(t *testing.T) {
	expectAnswer(t, spawnCall, impl.Board{}, boardAnswer{board: board([]int{0}, ready(0)), num: 0})
	expectAnswer(t, spawnCall, board([]int{2, 0}, ready(4), runs, ready(7)),
		boardAnswer{board: board([]int{2, 0, 3}, ready(4), runs, ready(7), ready(0)), num: 3})
	expectAnswer(t, spawnCall, board(nil, done), boardAnswer{board: board([]int{1}, done, ready(0)), num: 1})
}

func TestSpawnTaskUpToMaxTasks(t *testing.T) {
	var b impl.Board
	for id := range impl.MaxTasks {
		got := answerOf(t, spawnCall, b)
		if got.num != id || got.code != impl.RunOk || !impl.GoodBoard(got.board) {
			t.Fatal(id, got)
		}
		b = got.board
	}
	expectAnswer(t, spawnCall, b, boardAnswer{board: b, code: impl.RunFull})
	// One that is done keeps its place.
	dead := slices.Repeat([]impl.Task{done}, 30)
	expectAnswer(t, spawnCall, impl.Board{Tasks: dead}, boardAnswer{board: impl.Board{Tasks: dead}, code: impl.RunFull})
	expectAnswer(t, spawnCall, impl.Board{Tasks: dead[:29]},
		boardAnswer{board: impl.Board{Tasks: append(slices.Clone(dead[:29]), ready(0)), Queue: []int{29}}, num: 29})
}

func TestPickTask(t *testing.T) {
	b := board([]int{3, 0, 2}, ready(5), parked, ready(0), ready(8))
	picked := [3]boardAnswer{
		{board: board([]int{0, 2}, ready(6), parked, ready(1), runs), num: 3},
		{board: board([]int{3, 2}, runs, parked, ready(1), ready(9)), num: 0},
		{board: board([]int{3, 0}, ready(6), parked, runs, ready(9)), num: 2},
	}
	// -9223372036854775808 is three times -3074457345618258603, and 1.
	for draw, place := range map[int]int{0: 0, 1: 1, 2: 2, 3: 0, 4: 1, 300: 0, -1: 2, -2: 1, -3: 0, -4: 2,
		math.MinInt: 1, math.MinInt + 1: 2, math.MaxInt: 1, math.MaxInt - 1: 0} {
		expectAnswer(t, pickCall(draw), b, picked[place])
	}
	for _, draw := range []int{math.MinInt, -1, 0, 1, math.MaxInt} {
		expectAnswer(t, pickCall(draw), board([]int{1}, done, ready(1000000)), boardAnswer{board: board(nil, done, runs), num: 1})
	}
}

func TestPickTaskPassedStopsAtItsMost(t *testing.T) {
	b := board([]int{2, 1, 0}, ready(999999), ready(1000000), ready(1000000))
	expectAnswer(t, pickCall(0), b, boardAnswer{board: board([]int{1, 0}, ready(1000000), ready(1000000), runs), num: 2})
	expectAnswer(t, pickCall(1), b, boardAnswer{board: board([]int{2, 0}, ready(1000000), runs, ready(1000000)), num: 1})
	expectAnswer(t, pickCall(2), b, boardAnswer{board: board([]int{2, 1}, runs, ready(1000000), ready(1000000)), num: 0})
}

func TestPickTaskRefused(t *testing.T) {
	busy := board([]int{0}, ready(3), runs)
	busyAndEmpty := board(nil, parked, runs)
	empty := board(nil, parked, done)
	for _, draw := range []int{math.MinInt, -1, 0, 1, math.MaxInt} {
		expectAnswer(t, pickCall(draw), busy, boardAnswer{board: busy, code: impl.RunBusy})
		expectAnswer(t, pickCall(draw), busyAndEmpty, boardAnswer{board: busyAndEmpty, code: impl.RunBusy})
		expectAnswer(t, pickCall(draw), empty, boardAnswer{board: empty, code: impl.RunNone})
		expectAnswer(t, pickCall(draw), impl.Board{}, boardAnswer{code: impl.RunNone})
	}
}

func TestLeaveRunning(t *testing.T) {
	b := board([]int{2, 0}, ready(6), runs, ready(4), parked, done)
	expectAnswer(t, yieldCall, b, boardAnswer{board: board([]int{2, 0, 1}, ready(6), ready(0), ready(4), parked, done)})
	expectAnswer(t, parkCall, b, boardAnswer{board: board([]int{2, 0}, ready(6), parked, ready(4), parked, done)})
	expectAnswer(t, endCall, b, boardAnswer{board: board([]int{2, 0}, ready(6), done, ready(4), parked, done)})
	expectAnswer(t, yieldCall, board(nil, runs), boardAnswer{board: board([]int{0}, ready(0))})
	for _, c := range []boardCall{yieldCall, parkCall, endCall} {
		none := board([]int{0}, ready(6), parked, done)
		expectAnswer(t, c, none, boardAnswer{board: none, code: impl.RunNone})
		expectAnswer(t, c, impl.Board{}, boardAnswer{code: impl.RunNone})
	}
}

func TestWakeTask(t *testing.T) {
	b := board([]int{2, 0}, ready(6), parked, ready(4), runs, done)
	expectAnswer(t, wakeCall(1), b, boardAnswer{board: board([]int{2, 0, 1}, ready(6), ready(0), ready(4), runs, done)})
	for _, id := range []int{0, 2, 3, 4} {
		expectAnswer(t, wakeCall(id), b, boardAnswer{board: b, code: impl.RunState})
	}
	for _, id := range []int{math.MinInt, -1, 5, 6, 29, 30, math.MaxInt} {
		expectAnswer(t, wakeCall(id), b, boardAnswer{board: b, code: impl.RunNone})
	}
	expectAnswer(t, wakeCall(0), impl.Board{}, boardAnswer{code: impl.RunNone})
}

func TestKillTask(t *testing.T) {
	b := board([]int{5, 0, 2}, ready(6), parked, ready(4), runs, done, ready(1000000))
	expectAnswer(t, killCall(5), b, boardAnswer{board: board([]int{0, 2}, ready(6), parked, ready(4), runs, done, done)})
	expectAnswer(t, killCall(0), b, boardAnswer{board: board([]int{5, 2}, done, parked, ready(4), runs, done, ready(1000000))})
	expectAnswer(t, killCall(2), b, boardAnswer{board: board([]int{5, 0}, ready(6), parked, done, runs, done, ready(1000000))})
	expectAnswer(t, killCall(1), b, boardAnswer{board: board([]int{5, 0, 2}, ready(6), done, ready(4), runs, done, ready(1000000))})
	expectAnswer(t, killCall(3), b, boardAnswer{board: board([]int{5, 0, 2}, ready(6), parked, ready(4), done, done, ready(1000000))})
	expectAnswer(t, killCall(4), b, boardAnswer{board: b, code: impl.RunState})
	for _, id := range []int{math.MinInt, -1, 6, 7, 29, 30, math.MaxInt} {
		expectAnswer(t, killCall(id), b, boardAnswer{board: b, code: impl.RunNone})
	}
	expectAnswer(t, killCall(0), impl.Board{}, boardAnswer{code: impl.RunNone})
	expectAnswer(t, killCall(0), board([]int{0}, ready(2)), boardAnswer{board: board(nil, done)})
}

func TestMostPassed(t *testing.T) {
	for _, c := range []struct {
		b    impl.Board
		most int
	}{
		{impl.Board{}, 0},
		{board(nil, runs, parked, done), 0},
		{board([]int{0}, ready(0)), 0},
		{board([]int{1, 0, 2}, ready(2), ready(7), ready(3)), 7},
		{board([]int{0, 2, 1}, ready(2), ready(3), ready(7)), 7},
		{board([]int{2, 1, 0}, ready(8), ready(3), ready(7)), 8},
		{board([]int{1}, runs, ready(1000000)), 1000000},
		{fullBoard(), 29},
	} {
		expectAnswer(t, mostCall, c.b, boardAnswer{num: c.most, yes: true})
	}
}

func TestFullBoardTurns(t *testing.T) {
	b := fullBoard()
	for _, draw := range []int{0, 29, 30, -1, math.MinInt, math.MaxInt} {
		expectAnswer(t, pickCall(draw), b, modelPick(b, draw))
	}
	for _, id := range []int{0, 13, 29, 30} {
		expectAnswer(t, killCall(id), b, modelKill(b, id))
		expectAnswer(t, wakeCall(id), b, modelWake(b, id))
	}
}

// The empty list and the nil list are the same value.
func TestEmptyListsAnswerAsNil(t *testing.T) {
	for _, c := range allBoardCalls() {
		a, b := c.run(impl.Board{}), c.run(impl.Board{Tasks: []impl.Task{}, Queue: []int{}})
		if !sameAnswer(a, b) {
			t.Error(c.name, a, b)
		}
		c1, c2 := c.run(impl.Board{Tasks: []impl.Task{parked}}), c.run(impl.Board{Tasks: []impl.Task{parked}, Queue: []int{}})
		if !sameAnswer(c1, c2) {
			t.Error(c.name, c1, c2)
		}
	}
}

func expectModel(t *testing.T, b impl.Board) {
	t.Helper()
	if !modelGood(b) {
		for _, c := range []boardCall{spawnCall, pickCall(1), yieldCall, parkCall, endCall, wakeCall(0), killCall(0)} {
			expectAnswer(t, c, b, boardAnswer{code: impl.RunBad})
		}
		expectAnswer(t, goodCall, b, boardAnswer{})
		expectAnswer(t, mostCall, b, boardAnswer{})
		return
	}
	expectAnswer(t, goodCall, b, boardAnswer{yes: true})
	expectAnswer(t, mostCall, b, modelMost(b))
	expectAnswer(t, spawnCall, b, modelSpawn(b))
	expectAnswer(t, yieldCall, b, modelLeave(b, ready(0)))
	expectAnswer(t, parkCall, b, modelLeave(b, parked))
	expectAnswer(t, endCall, b, modelLeave(b, done))
	for draw := -3; draw <= 3; draw++ {
		expectAnswer(t, pickCall(draw), b, modelPick(b, draw))
	}
	for id := -1; id <= len(b.Tasks); id++ {
		expectAnswer(t, wakeCall(id), b, modelWake(b, id))
		expectAnswer(t, killCall(id), b, modelKill(b, id))
	}
}

// listsOf are all lists of at most that length made of the values.
func listsOf[T any](values []T, length int) [][]T {
	lists := [][]T{nil}
	for at := 0; at < len(lists); at++ {
		if len(lists[at]) == length {
			break
		}
		for _, v := range values {
			lists = append(lists, append(slices.Clone(lists[at]), v))
		}
	}
	return lists
}

func TestAllSmallBoards(t *testing.T) {
	var kinds []impl.Task
	for state := range 6 {
		for _, passed := range []int{-1, 0, 1000000, 1000001} {
			kinds = append(kinds, impl.Task{State: state, Passed: passed})
		}
	}
	queues := listsOf([]int{-1, 0, 1, 2}, 3)
	for _, tasks := range listsOf(kinds, 2) {
		for _, queue := range queues {
			b := impl.Board{Tasks: tasks, Queue: queue}
			if got := impl.GoodBoard(b); got != modelGood(b) {
				t.Fatalf("GoodBoard of %v: %v", b, got)
			}
		}
	}
	few := []impl.Task{ready(0), ready(1000000), runs, parked, done, {State: 0}, {State: impl.TaskParked, Passed: 1}}
	for _, tasks := range listsOf(few, 2) {
		for _, queue := range queues {
			expectModel(t, impl.Board{Tasks: tasks, Queue: queue})
		}
	}
}

func TestAllGoodBoardsOfThree(t *testing.T) {
	kinds := []impl.Task{ready(0), ready(1), ready(1000000), runs, parked, done}
	queues := listsOf([]int{0, 1, 2}, 3)
	met := 0
	for _, tasks := range listsOf(kinds, 3) {
		for _, queue := range queues {
			if b := (impl.Board{Tasks: tasks, Queue: queue}); modelGood(b) {
				met++
				expectModel(t, b)
			}
		}
	}
	// 1 of no task, 6 of one, 44 of two and 416 of three.
	if met != 467 {
		t.Error("not all good boards were met:", met)
	}
}

// turns is a fixed row of numbers that look like chance.
type turns uint64

func (r *turns) next(below int) int {
	*r = *r*6364136223846793005 + 1442695040888963407
	return int(uint64(*r)>>33) % below
}

func (r *turns) anyInt() int {
	edges := []int{math.MinInt, math.MinInt + 1, -1, 0, 1, 2, 3, 4, 5, 29, 30, 31, 1000000, 1000001, math.MaxInt}
	if r.next(4) > 0 {
		return r.next(6)
	}
	return edges[r.next(len(edges))]
}

// Promise 14: boards of any numbers.
func TestAnyBoardIsAnswered(t *testing.T) {
	r := turns(14)
	for range 3000 {
		var b impl.Board
		for range r.next(34) {
			b.Tasks = append(b.Tasks, impl.Task{State: r.anyInt(), Passed: r.anyInt()})
		}
		for range r.next(34) {
			b.Queue = append(b.Queue, r.anyInt())
		}
		expectModel(t, b)
		for _, c := range []boardCall{pickCall(r.anyInt()), wakeCall(r.anyInt()), killCall(r.anyInt())} {
			answerOf(t, c, b)
		}
	}
}

func expectEachReadyOnce(t *testing.T, step string, b impl.Board) {
	t.Helper()
	for id, task := range b.Tasks {
		stands := 0
		for _, queued := range b.Queue {
			if queued == id {
				stands++
			}
		}
		if (task.State == impl.TaskReady) != (stands == 1) || stands > 1 {
			t.Fatalf("%s: task %d stands %d times in %v", step, id, stands, b)
		}
	}
	if !impl.GoodBoard(b) {
		t.Fatalf("%s: %v is not good", step, b)
	}
}

// Promise 1 over long histories: whoever is ready stands in the queue once, who is picked leaves it,
// and how often each was passed over is what was counted beside.
func TestPromise1OverHistories(t *testing.T) {
	for seed := range 40 {
		r := turns(seed)
		var b impl.Board
		var passed []int
		for step := range 400 {
			c, follow := nextStep(&r, b)
			before := b
			got := answerOf(t, c, b)
			b = got.board
			told := strconv.Itoa(seed) + "/" + strconv.Itoa(step) + " " + c.name
			expectEachReadyOnce(t, told, b)
			if got.code != impl.RunOk && !sameBoard(b, before) {
				t.Fatalf("%s: refused, but changed %v to %v", told, before, b)
			}
			passed = follow(passed, got)
			for id, task := range b.Tasks {
				if task.Passed != passed[id] {
					t.Fatalf("%s: task %d was passed over %d times, not %d", told, id, passed[id], task.Passed)
				}
			}
		}
	}
}

// nextStep chooses a call, and how it changes the counts of who was passed over.
func nextStep(r *turns, b impl.Board) (boardCall, func([]int, boardAnswer) []int) {
	same := func(passed []int, _ boardAnswer) []int { return passed }
	switch r.next(12) {
	case 0, 1:
		return spawnCall, func(passed []int, a boardAnswer) []int {
			if a.code == impl.RunOk {
				passed = append(passed, 0)
			}
			return passed
		}
	case 2, 3, 4, 5:
		place := r.next(31)
		return pickCall(place - 15), func(passed []int, a boardAnswer) []int {
			if a.code != impl.RunOk {
				return passed
			}
			for _, queued := range b.Queue {
				passed[queued]++
			}
			passed[a.num] = 0
			return passed
		}
	case 6, 7:
		return yieldCall, same
	case 8:
		return parkCall, same
	case 9:
		if r.next(4) > 0 {
			return yieldCall, same
		}
		return endCall, same
	case 10:
		return wakeCall(r.next(32) - 1), same
	}
	id := r.next(32) - 1
	if r.next(4) > 0 {
		return wakeCall(id), same
	}
	return killCall(id), func(passed []int, a boardAnswer) []int {
		if a.code == impl.RunOk {
			passed[id] = 0
		}
		return passed
	}
}
