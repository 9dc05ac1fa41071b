package tests

import (
	"math/big"
	"slices"

	"loop.example/g00145/impl"
)

// The chapter said a second time, plainly, for comparison over many boards.

const mostPassed = 1000000

func modelGood(b impl.Board) bool {
	if len(b.Tasks) > 30 {
		return false
	}
	var waiting []int
	running := 0
	for id, t := range b.Tasks {
		switch {
		case t.State < 1 || t.State > 4:
			return false
		case t.State != impl.TaskReady && t.Passed != 0:
			return false
		case t.Passed < 0 || t.Passed > mostPassed:
			return false
		case t.State == impl.TaskReady:
			waiting = append(waiting, id)
		case t.State == impl.TaskRuns:
			running++
		}
	}
	sorted := slices.Clone(b.Queue)
	slices.Sort(sorted)
	return running <= 1 && slices.Equal(sorted, waiting)
}

func modelRunning(b impl.Board) int {
	return slices.IndexFunc(b.Tasks, func(t impl.Task) bool { return t.State == impl.TaskRuns })
}

func cloneBoard(b impl.Board) impl.Board {
	return impl.Board{Tasks: slices.Clone(b.Tasks), Queue: slices.Clone(b.Queue)}
}

func modelSpawn(b impl.Board) boardAnswer {
	b = cloneBoard(b)
	if len(b.Tasks) == 30 {
		return boardAnswer{board: b, code: impl.RunFull}
	}
	id := len(b.Tasks)
	b.Tasks = append(b.Tasks, ready(0))
	b.Queue = append(b.Queue, id)
	return boardAnswer{board: b, num: id}
}

func modelPick(b impl.Board, draw int) boardAnswer {
	b = cloneBoard(b)
	if modelRunning(b) >= 0 {
		return boardAnswer{board: b, code: impl.RunBusy}
	}
	if len(b.Queue) == 0 {
		return boardAnswer{board: b, code: impl.RunNone}
	}
	place := int(new(big.Int).Mod(big.NewInt(int64(draw)), big.NewInt(int64(len(b.Queue)))).Int64())
	id := b.Queue[place]
	b.Queue = slices.Delete(b.Queue, place, place+1)
	for _, other := range b.Queue {
		b.Tasks[other].Passed = min(b.Tasks[other].Passed+1, mostPassed)
	}
	b.Tasks[id] = runs
	return boardAnswer{board: b, num: id}
}

func modelLeave(b impl.Board, to impl.Task) boardAnswer {
	b = cloneBoard(b)
	id := modelRunning(b)
	if id < 0 {
		return boardAnswer{board: b, code: impl.RunNone}
	}
	b.Tasks[id] = to
	if to.State == impl.TaskReady {
		b.Queue = append(b.Queue, id)
	}
	return boardAnswer{board: b}
}

func modelWake(b impl.Board, id int) boardAnswer {
	b = cloneBoard(b)
	if id < 0 || id >= len(b.Tasks) {
		return boardAnswer{board: b, code: impl.RunNone}
	}
	if b.Tasks[id].State != impl.TaskParked {
		return boardAnswer{board: b, code: impl.RunState}
	}
	b.Tasks[id] = ready(0)
	b.Queue = append(b.Queue, id)
	return boardAnswer{board: b}
}

func modelKill(b impl.Board, id int) boardAnswer {
	b = cloneBoard(b)
	if id < 0 || id >= len(b.Tasks) {
		return boardAnswer{board: b, code: impl.RunNone}
	}
	if b.Tasks[id].State == impl.TaskDone {
		return boardAnswer{board: b, code: impl.RunState}
	}
	b.Tasks[id] = done
	b.Queue = slices.DeleteFunc(b.Queue, func(queued int) bool { return queued == id })
	return boardAnswer{board: b}
}

func modelMost(b impl.Board) boardAnswer {
	most := 0
	for _, t := range b.Tasks {
		most = max(most, t.Passed)
	}
	return boardAnswer{num: most, yes: true}
}
