package impl

import "iter"

const MaxTasks = 30
const TaskReady = 1
const TaskRuns = 2
const TaskParked = 3
const TaskDone = 4
const RunOk = 0
const RunBad = 1
const RunNone = 2
const RunBusy = 3
const RunState = 4
const RunFull = 5

type Task struct {
	State  int
	Passed int
}

type Board struct {
	Tasks []Task
	Queue []int
}

// maxPassed keeps a count from growing without end where a task is never picked.
const maxPassed = 1000000

// queue is generic because tasks are not all that stands in line.
// A change makes a new list: whoever still holds the old one sees no difference.
type queue[T any] struct {
	items []T
}

func queueOf[T any](list []T) queue[T] {
	return queue[T]{items: copyList(list)}
}

// copyList answers nil for every empty list, so that an answer does not hang on which of the two came in.
func copyList[T any](list []T) []T {
	if len(list) == 0 {
		return nil
	}
	made := make([]T, len(list))
	copy(made, list)
	return made
}

func (q queue[T]) all() iter.Seq2[int, T] {
	return func(yield func(int, T) bool) {
		for place, item := range q.items {
			if !yield(place, item) {
				return
			}
		}
	}
}

func (q queue[T]) with(item T) queue[T] {
	items := make([]T, len(q.items)+1)
	copy(items, q.items)
	items[len(q.items)] = item
	return queue[T]{items: items}
}

func (q queue[T]) without(place int) queue[T] {
	var items []T
	for k, item := range q.all() {
		if k != place {
			items = append(items, item)
		}
	}
	return queue[T]{items: items}
}

// modulo is needed because Go's remainder takes the sign of what is divided.
func modulo(a int, n int) int {
	r := a % n
	if r < 0 {
		r += n
	}
	return r
}

func goodTask(t Task) bool {
	switch t.State {
	case TaskReady:
		return t.Passed >= 0 && t.Passed <= maxPassed
	case TaskRuns, TaskParked, TaskDone:
		return t.Passed == 0
	}
	return false
}

func goodTasks(tasks []Task) bool {
	running := 0
	for _, t := range tasks {
		if !goodTask(t) {
			return false
		}
		if t.State == TaskRuns {
			running++
		}
	}
	return running <= 1
}

// goodQueue may be asked only where there are at most MaxTasks tasks: each id has its mark in seen.
func goodQueue(b Board) bool {
	// Some id would be there twice; a queue of any length is refused without going through it.
	if len(b.Queue) > len(b.Tasks) {
		return false
	}
	var seen [MaxTasks]bool
	for _, id := range queueOf(b.Queue).all() {
		if !hasTask(b, id) || seen[id] {
			return false
		}
		seen[id] = true
	}
	for id, t := range b.Tasks {
		if seen[id] != (t.State == TaskReady) {
			return false
		}
	}
	return true
}

func hasTask(b Board, id int) bool {
	return id >= 0 && id < len(b.Tasks)
}

func copyBoard(b Board) Board {
	return Board{Tasks: copyList(b.Tasks), Queue: copyList(b.Queue)}
}

func runningTask(b Board) (int, bool) {
	for id, t := range b.Tasks {
		if t.State == TaskRuns {
			return id, true
		}
	}
	return 0, false
}

func placeInQueue(b Board, id int) (int, bool) {
	for place, queued := range queueOf(b.Queue).all() {
		if queued == id {
			return place, true
		}
	}
	return 0, false
}

// withTask answers a board of its own memory, where the task has that state and has not been passed over.
// Queue stays: whoever calls makes it fit the state.
func withTask(b Board, id int, state int) Board {
	next := copyBoard(b)
	next.Tasks[id] = Task{State: state}
	return next
}

func withReady(b Board, id int) Board {
	next := withTask(b, id, TaskReady)
	next.Queue = queueOf(next.Queue).with(id).items
	return next
}

func passOver(t Task) Task {
	if t.Passed < maxPassed {
		t.Passed++
	}
	return t
}

func GoodBoard(b Board) bool {
	return len(b.Tasks) <= MaxTasks && goodTasks(b.Tasks) && goodQueue(b)
}

func SpawnTask(b Board) (Board, int, int) {
	if !GoodBoard(b) {
		return Board{}, 0, RunBad
	}
	if len(b.Tasks) == MaxTasks {
		return copyBoard(b), 0, RunFull
	}
	id := len(b.Tasks)
	tasks := queueOf(b.Tasks).with(Task{})
	return withReady(Board{Tasks: tasks.items, Queue: b.Queue}, id), id, RunOk
}

func PickTask(b Board, draw int) (Board, int, int) {
	if !GoodBoard(b) {
		return Board{}, 0, RunBad
	}
	if _, busy := runningTask(b); busy {
		return copyBoard(b), 0, RunBusy
	}
	if len(b.Queue) == 0 {
		return copyBoard(b), 0, RunNone
	}
	place := modulo(draw, len(b.Queue))
	id := b.Queue[place]
	next := withTask(b, id, TaskRuns)
	others := queueOf(b.Queue).without(place)
	for _, other := range others.all() {
		next.Tasks[other] = passOver(next.Tasks[other])
	}
	next.Queue = others.items
	return next, id, RunOk
}

func YieldTask(b Board) (Board, int) {
	return leaveRunning(b, TaskReady)
}

func ParkTask(b Board) (Board, int) {
	return leaveRunning(b, TaskParked)
}

func EndTask(b Board) (Board, int) {
	return leaveRunning(b, TaskDone)
}

func leaveRunning(b Board, state int) (Board, int) {
	if !GoodBoard(b) {
		return Board{}, RunBad
	}
	id, busy := runningTask(b)
	if !busy {
		return copyBoard(b), RunNone
	}
	if state == TaskReady {
		return withReady(b, id), RunOk
	}
	return withTask(b, id, state), RunOk
}

func WakeTask(b Board, id int) (Board, int) {
	if !GoodBoard(b) {
		return Board{}, RunBad
	}
	if !hasTask(b, id) {
		return copyBoard(b), RunNone
	}
	if b.Tasks[id].State != TaskParked {
		return copyBoard(b), RunState
	}
	return withReady(b, id), RunOk
}

func KillTask(b Board, id int) (Board, int) {
	if !GoodBoard(b) {
		return Board{}, RunBad
	}
	if !hasTask(b, id) {
		return copyBoard(b), RunNone
	}
	if b.Tasks[id].State == TaskDone {
		return copyBoard(b), RunState
	}
	next := withTask(b, id, TaskDone)
	if place, queued := placeInQueue(b, id); queued {
		next.Queue = queueOf(b.Queue).without(place).items
	}
	return next, RunOk
}

func MostPassed(b Board) (int, bool) {
	if !GoodBoard(b) {
		return 0, false
	}
	most := 0
	for _, t := range b.Tasks {
		most = max(most, t.Passed)
	}
	return most, true
}
