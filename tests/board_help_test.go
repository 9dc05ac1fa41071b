package tests

import (
	"math"
	"slices"
	"strconv"
	"testing"

	"loop.example/g00145/impl"
)

// ready, runs, parked and done make tasks short enough to be read in a row.
func ready(passed int) impl.Task { return impl.Task{State: impl.TaskReady, Passed: passed} }

var (
	runs   = impl.Task{State: impl.TaskRuns}
	parked = impl.Task{State: impl.TaskParked}
	done   = impl.Task{State: impl.TaskDone}
)

func board(queue []int, tasks ...impl.Task) impl.Board {
	return impl.Board{Tasks: tasks, Queue: queue}
}

func sameBoard(a, b impl.Board) bool {
	return slices.Equal(a.Tasks, b.Tasks) && slices.Equal(a.Queue, b.Queue)
}

// boardAnswer holds what any function of the chapter answers; what a function does not have stays zero.
type boardAnswer struct {
	board impl.Board
	num   int
	code  int
	yes   bool
}

func sameAnswer(a, b boardAnswer) bool {
	return sameBoard(a.board, b.board) && a.num == b.num && a.code == b.code && a.yes == b.yes
}

type boardCall struct {
	name string
	run  func(b impl.Board) boardAnswer
}

var (
	goodCall = boardCall{"GoodBoard", func(b impl.Board) boardAnswer {
		return boardAnswer{yes: impl.GoodBoard(b)}
	}}
	mostCall = boardCall{"MostPassed", func(b impl.Board) boardAnswer {
		most, yes := impl.MostPassed(b)
		return boardAnswer{num: most, yes: yes}
	}}
	spawnCall = boardCall{"SpawnTask", func(b impl.Board) boardAnswer {
		next, id, code := impl.SpawnTask(b)
		return boardAnswer{board: next, num: id, code: code}
	}}
	yieldCall = plainCall("YieldTask", impl.YieldTask)
	parkCall  = plainCall("ParkTask", impl.ParkTask)
	endCall   = plainCall("EndTask", impl.EndTask)
)

func plainCall(name string, f func(impl.Board) (impl.Board, int)) boardCall {
	return boardCall{name, func(b impl.Board) boardAnswer {
		next, code := f(b)
		return boardAnswer{board: next, code: code}
	}}
}

func pickCall(draw int) boardCall {
	return boardCall{"PickTask " + strconv.Itoa(draw), func(b impl.Board) boardAnswer {
		next, id, code := impl.PickTask(b, draw)
		return boardAnswer{board: next, num: id, code: code}
	}}
}

func wakeCall(id int) boardCall {
	return plainCall("WakeTask "+strconv.Itoa(id), func(b impl.Board) (impl.Board, int) { return impl.WakeTask(b, id) })
}

func killCall(id int) boardCall {
	return plainCall("KillTask "+strconv.Itoa(id), func(b impl.Board) (impl.Board, int) { return impl.KillTask(b, id) })
}

// changingCalls are the calls with a code; with draws and ids at and beyond every edge.
func changingCalls() []boardCall {
	calls := []boardCall{spawnCall, yieldCall, parkCall, endCall}
	for _, draw := range []int{math.MinInt, -7, -1, 0, 1, 2, 3, 29, 30, math.MaxInt} {
		calls = append(calls, pickCall(draw))
	}
	for _, id := range []int{math.MinInt, -1, 0, 1, 2, 3, 4, 29, 30, 31, math.MaxInt} {
		calls = append(calls, wakeCall(id), killCall(id))
	}
	return calls
}

func allBoardCalls() []boardCall {
	return append(changingCalls(), goodCall, mostCall)
}

// guardedBoard lies in the middle of greater memory, so that a write or a read beside it is seen.
type guardedBoard struct {
	board              impl.Board
	tasks, tasksBefore []impl.Task
	queue, queueBefore []int
}

const guardWidth = 40

func guardBoard(b impl.Board, task impl.Task, id int) guardedBoard {
	var g guardedBoard
	tasks := slices.Concat(slices.Repeat([]impl.Task{task}, guardWidth), b.Tasks, slices.Repeat([]impl.Task{task}, guardWidth))
	queue := slices.Concat(slices.Repeat([]int{id}, guardWidth), b.Queue, slices.Repeat([]int{id}, guardWidth))
	g.tasks, g.tasksBefore = tasks, slices.Clone(tasks)
	g.queue, g.queueBefore = queue, slices.Clone(queue)
	g.board = impl.Board{Tasks: tasks[guardWidth : guardWidth+len(b.Tasks)], Queue: queue[guardWidth : guardWidth+len(b.Queue)]}
	return g
}

func (g guardedBoard) untouched() bool {
	return slices.Equal(g.tasks, g.tasksBefore) && slices.Equal(g.queue, g.queueBefore)
}

// scribble writes over all memory that an answer hands out, also behind its lengths.
func scribble(b impl.Board) {
	tasks, queue := b.Tasks[:cap(b.Tasks)], b.Queue[:cap(b.Queue)]
	for k := range tasks {
		tasks[k] = impl.Task{State: -99, Passed: -99}
	}
	for k := range queue {
		queue[k] = -99
	}
}

func handsOut(b impl.Board, task impl.Task, id int) bool {
	return slices.Contains(b.Tasks[:cap(b.Tasks)], task) || slices.Contains(b.Queue[:cap(b.Queue)], id)
}

func copyAnswer(a boardAnswer) boardAnswer {
	a.board = impl.Board{Tasks: slices.Clone(a.board.Tasks), Queue: slices.Clone(a.board.Queue)}
	return a
}

// answerOf is one call with everything that promise 14 asks of it; a panic is told as a failure of that call.
func answerOf(t *testing.T, c boardCall, b impl.Board) boardAnswer {
	t.Helper()
	defer func() {
		if p := recover(); p != nil {
			t.Fatalf("%s of %v: panic: %v", c.name, b, p)
		}
	}()
	strangeTask, strangeId := impl.Task{State: 77777, Passed: 88888}, 99999
	g := guardBoard(b, strangeTask, strangeId)
	got := c.run(g.board)
	want := copyAnswer(got)
	if !g.untouched() {
		t.Fatalf("%s of %v: wrote into its argument", c.name, b)
	}
	if handsOut(got.board, strangeTask, strangeId) {
		t.Fatalf("%s of %v: handed out what lies beside its argument's lists", c.name, b)
	}
	again := c.run(g.board)
	scribble(got.board)
	if !g.untouched() {
		t.Fatalf("%s of %v: the answer shares memory with the argument", c.name, b)
	}
	if !sameAnswer(again, want) {
		t.Fatalf("%s of %v: two answers share memory or differ: %v, then %v", c.name, b, want, again)
	}
	// Behind the lists lies what would be a good continuation: whoever reads there answers otherwise.
	tempting := guardBoard(b, ready(5), len(b.Tasks))
	if other := c.run(tempting.board); !sameAnswer(other, want) {
		t.Fatalf("%s of %v: the answer hangs on what lies behind the lists: %v, not %v", c.name, b, other, want)
	}
	return want
}

func expectAnswer(t *testing.T, c boardCall, b impl.Board, want boardAnswer) {
	t.Helper()
	if got := answerOf(t, c, b); !sameAnswer(got, want) {
		t.Errorf("%s of %v: %v, not %v", c.name, b, got, want)
	}
}
