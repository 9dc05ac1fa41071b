package tests

import (
	"math"
	"slices"
	"strconv"
	"testing"

	"loop.example/g00145/impl"
)

func group(count int, waiting ...int) impl.Group {
	return impl.Group{Count: count, Waiting: waiting}
}

// countDown are all tasks, the last one first.
func countDown() []int {
	list := countUp(0, 30)
	slices.Reverse(list)
	return list
}

func TestSyncConstants(t *testing.T) {
	got := []int{impl.MaxScopes, impl.SyncDone, impl.SyncWaits, impl.SyncBad, impl.SyncBelow, impl.SyncBusy, impl.WhyNone, impl.WhyCancelled, impl.WhyDeadline}
	if want := []int{20, 0, 1, 2, 3, 4, 0, 1, 2}; !slices.Equal(got, want) {
		t.Error(got, want)
	}
}

func goodGroups() map[string]impl.Group {
	return map[string]impl.Group{
		"nothing":                     {},
		"an empty list":               {Waiting: []int{}},
		"one, nobody waits":           group(1),
		"the most, nobody waits":      group(1000000),
		"one less than the most":      group(999999, 3),
		"one waits":                   group(1, 4),
		"the first and the last task": group(2, 0, 29),
		"the last and the first task": group(2, 29, 0),
		"one less than MaxTasks":      group(3, countUp(1, 29)...),
		"MaxTasks":                    group(1, countUp(0, 30)...),
		"MaxTasks, the last first":    group(7, countDown()...),
		"the most of all":             group(1000000, countUp(0, 30)...),
	}
}

// badLines are bad in groups and, with any needs, in rooms.
func badLines() map[string][]int {
	lines := map[string][]int{
		"twice":                    {4, 4},
		"twice, one between":       {4, 5, 4},
		"the first task twice":     {0, 0},
		"the last task twice":      {29, 3, 29},
		"twice at the ends of all": slices.Concat(countUp(0, 29), []int{0}),
		"one more than MaxTasks":   slices.Concat(countUp(0, 30), []int{0}),
		"31 that differ":           countUp(0, 31),
		"31, one is below":         countUp(-1, 31),
		"far too many":             slices.Repeat([]int{1, 2, 3, 4}, 500),
	}
	for _, task := range strangeTasks {
		name := "task " + strconv.Itoa(task)
		lines[name] = []int{task}
		lines[name+" first"] = slices.Concat([]int{task}, countUp(0, 29))
		lines[name+" in the midst"] = []int{3, 4, task, 5}
		lines[name+" last"] = slices.Concat(countUp(1, 29), []int{task})
	}
	return lines
}

func badGroups() map[string]impl.Group {
	groups := map[string]impl.Group{
		"below 0":                   group(-1),
		"far below 0":               group(math.MinInt),
		"above the most":            group(1000001),
		"far above":                 group(math.MaxInt),
		"below 0, one waits":        group(-1, 4),
		"above the most, one waits": group(1000001, 4),
		"one waits for nothing":     group(0, 4),
		"all wait for nothing":      group(0, countUp(0, 30)...),
		"the first waits, nothing":  group(0, 0),
	}
	for name, line := range badLines() {
		groups[name] = group(5, line...)
	}
	groups["a bad line, nothing"] = group(0, 4, 4)
	return groups
}

func TestGoodGroup(t *testing.T) {
	for name, g := range goodGroups() {
		t.Run(name, func(t *testing.T) { expectCall(t, impl.GoodGroup, in(g), true) })
	}
	for name, g := range badGroups() {
		t.Run(name, func(t *testing.T) { expectCall(t, impl.GoodGroup, in(g), false) })
	}
}

// strangeSteps lie just beyond what may be added, and far away.
var strangeSteps = []int{math.MinInt, math.MinInt + 1, -1000001, 1000001, math.MaxInt - 1000000, math.MaxInt}

func TestBadGroupIsRefused(t *testing.T) {
	for name, g := range badGroups() {
		t.Run(name, func(t *testing.T) {
			for _, by := range append([]int{-1000000, -5, -1, 0, 1, 1000000}, strangeSteps...) {
				expectCall(t, impl.AddTo, in(g, by), impl.Group{}, []int{}, impl.SyncBad)
			}
			for _, task := range append([]int{0, 1, 4, 29}, strangeTasks...) {
				expectCall(t, impl.WaitFor, in(g, task), impl.Group{}, impl.SyncBad)
			}
		})
	}
}

func TestBadStepsAndTasksAreRefused(t *testing.T) {
	for name, g := range goodGroups() {
		t.Run(name, func(t *testing.T) {
			for _, by := range strangeSteps {
				expectCall(t, impl.AddTo, in(g, by), impl.Group{}, []int{}, impl.SyncBad)
			}
			for _, task := range strangeTasks {
				expectCall(t, impl.WaitFor, in(g, task), impl.Group{}, impl.SyncBad)
			}
		})
	}
}

func TestAddTo(t *testing.T) {
	all := countUp(0, 30)
	for name, c := range map[string]struct {
		g     impl.Group
		by    int
		next  impl.Group
		woken []int
		code  int
	}{
		"nothing to nothing":           {group(0), 0, group(0), nil, impl.SyncDone},
		"one":                          {group(0), 1, group(1), nil, impl.SyncDone},
		"the most at once":             {group(0), 1000000, group(1000000), nil, impl.SyncDone},
		"up to the most":               {group(999999, 3), 1, group(1000000, 3), nil, impl.SyncDone},
		"up to the most from one":      {group(1, 3), 999999, group(1000000, 3), nil, impl.SyncDone},
		"nothing to the most":          {group(1000000, 3), 0, group(1000000, 3), nil, impl.SyncDone},
		"nothing while all wait":       {group(1, all...), 0, group(1, all...), nil, impl.SyncDone},
		"one above the most":           {group(1000000, 3, 1), 1, group(1000000, 3, 1), nil, impl.SyncBelow},
		"two above, from below":        {group(999999), 2, group(999999), nil, impl.SyncBelow},
		"one above, by the most":       {group(1, 6), 1000000, group(1, 6), nil, impl.SyncBelow},
		"far above":                    {group(1000000), 1000000, group(1000000), nil, impl.SyncBelow},
		"one less, not all done":       {group(2, 5, 4), -1, group(1, 5, 4), nil, impl.SyncDone},
		"all done, nobody waits":       {group(1), -1, group(0), nil, impl.SyncDone},
		"all done, one waits":          {group(1, 4), -1, group(0), []int{4}, impl.SyncDone},
		"all done, in their order":     {group(3, 9, 2, 29, 0, 7), -3, group(0), []int{9, 2, 29, 0, 7}, impl.SyncDone},
		"all done, all wait":           {group(1, all...), -1, group(0), all, impl.SyncDone},
		"all done, the last first":     {group(2, countDown()...), -2, group(0), countDown(), impl.SyncDone},
		"all of the most done":         {group(1000000, 8, 7), -1000000, group(0), []int{8, 7}, impl.SyncDone},
		"all but one of the most":      {group(1000000, 8, 7), -999999, group(1, 8, 7), nil, impl.SyncDone},
		"one below nothing":            {group(0), -1, group(0), nil, impl.SyncBelow},
		"one below, somebody waits":    {group(1, 4), -2, group(1, 4), nil, impl.SyncBelow},
		"one below, by the most":       {group(999999, 4), -1000000, group(999999, 4), nil, impl.SyncBelow},
		"far below":                    {group(0), -1000000, group(0), nil, impl.SyncBelow},
		"beyond what may be added":     {group(5, 4), 1000001, impl.Group{}, nil, impl.SyncBad},
		"beyond what may be taken":     {group(1000000, 4), -1000001, impl.Group{}, nil, impl.SyncBad},
		"the least int":                {group(5, 4), math.MinInt, impl.Group{}, nil, impl.SyncBad},
		"the greatest int":             {group(1000000, 4), math.MaxInt, impl.Group{}, nil, impl.SyncBad},
		"the least int to nothing":     {group(0), math.MinInt, impl.Group{}, nil, impl.SyncBad},
		"the greatest int to nothing":  {group(0), math.MaxInt, impl.Group{}, nil, impl.SyncBad},
		"a bad group and a bad step":   {group(-1), 1000001, impl.Group{}, nil, impl.SyncBad},
		"a bad group that would be ok": {group(-1), 2, impl.Group{}, nil, impl.SyncBad},
	} {
		t.Run(name, func(t *testing.T) { expectCall(t, impl.AddTo, in(c.g, c.by), c.next, c.woken, c.code) })
	}
}

func TestWaitFor(t *testing.T) {
	for name, c := range map[string]struct {
		g    impl.Group
		task int
		next impl.Group
		code int
	}{
		"nothing to wait for":         {group(0), 4, group(0), impl.SyncDone},
		"nothing, the first task":     {group(0), 0, group(0), impl.SyncDone},
		"nothing, the last task":      {group(0), 29, group(0), impl.SyncDone},
		"nothing, no task":            {group(0), 30, impl.Group{}, impl.SyncBad},
		"the first that waits":        {group(1), 4, group(1, 4), impl.SyncWaits},
		"the first task":              {group(1), 0, group(1, 0), impl.SyncWaits},
		"the last task":               {group(1), 29, group(1, 29), impl.SyncWaits},
		"behind the others":           {group(1000000, 7, 3), 5, group(1000000, 7, 3, 5), impl.SyncWaits},
		"behind all others":           {group(2, countUp(1, 29)...), 0, group(2, append(countUp(1, 29), 0)...), impl.SyncWaits},
		"waits already":               {group(1, 4), 4, group(1, 4), impl.SyncBusy},
		"waits already in the midst":  {group(1, 7, 4, 9), 4, group(1, 7, 4, 9), impl.SyncBusy},
		"waits already as the last":   {group(1, 7, 9, 0), 0, group(1, 7, 9, 0), impl.SyncBusy},
		"MaxTasks wait":               {group(1, countUp(0, 30)...), 17, group(1, countUp(0, 30)...), impl.SyncBusy},
		"just below the tasks":        {group(1, 7), -1, impl.Group{}, impl.SyncBad},
		"just above the tasks":        {group(1, 7), 30, impl.Group{}, impl.SyncBad},
		"no task, MaxTasks wait":      {group(1, countUp(0, 30)...), 30, impl.Group{}, impl.SyncBad},
		"one that waits for nothing":  {group(0, 4), 4, impl.Group{}, impl.SyncBad},
		"a group that is bad, a task": {group(-1), 4, impl.Group{}, impl.SyncBad},
	} {
		t.Run(name, func(t *testing.T) { expectCall(t, impl.WaitFor, in(c.g, c.task), c.next, c.code) })
	}
}

func TestEmptyListsInAGroup(t *testing.T) {
	for _, waiting := range [][]int{nil, {}, make([]int, 0, 5)} {
		g, woken, _ := impl.AddTo(impl.Group{Count: 3, Waiting: waiting}, -3)
		if g.Waiting != nil || woken != nil {
			t.Errorf("%#v %#v", g, woken)
		}
		if g, _ := impl.WaitFor(impl.Group{Waiting: waiting}, 3); g.Waiting != nil {
			t.Errorf("%#v", g)
		}
	}
}

func expectGroupModel(t *testing.T, g impl.Group, steps, tasks []int, codes map[int]int) {
	t.Helper()
	expectCall(t, impl.GoodGroup, in(g), modelGoodGroup(g))
	for _, by := range steps {
		next, woken, code := modelAddTo(g, by)
		expectCall(t, impl.AddTo, in(g, by), next, woken, code)
		codes[code]++
	}
	for _, task := range tasks {
		next, code := modelWaitFor(g, task)
		expectCall(t, impl.WaitFor, in(g, task), next, code)
		codes[code]++
	}
}

func TestAllSmallGroups(t *testing.T) {
	met, codes := 0, map[int]int{}
	for _, waiting := range listsOf([]int{-1, 0, 1, 29, 30}, 3) {
		for _, count := range []int{-1, 0, 1, 2, 999999, 1000000, 1000001} {
			g := group(count, waiting...)
			if got := impl.GoodGroup(g); got != modelGoodGroup(g) {
				t.Fatalf("GoodGroup of %+v: %v", g, got)
			}
			if modelGoodGroup(g) {
				met++
				expectGroupModel(t, g, []int{-1000001, -1000000, -2, -1, 0, 1, 2, 1000000, 1000001}, []int{-1, 0, 1, 2, 29, 30}, codes)
			}
		}
	}
	// With nobody waiting 5 Counts are good; with each of the 15 lines of different tasks 4.
	if met != 65 {
		t.Error("not all good groups were met:", met)
	}
	expectMet(t, codes, 10, impl.SyncDone, impl.SyncWaits, impl.SyncBad, impl.SyncBelow, impl.SyncBusy)
}

// anyTasks are so many tasks, none twice, in any order.
func (r *turns) anyTasks(many int) []int {
	tasks := countUp(0, 30)
	for k := range tasks {
		other := k + r.next(30-k)
		tasks[k], tasks[other] = tasks[other], tasks[k]
	}
	return tasks[:many]
}

func (r *turns) anyGoodGroup() impl.Group {
	g := impl.Group{Count: []int{0, 1, r.next(10), 1 + r.next(1000000), 1000000}[r.next(5)]}
	if g.Count > 0 {
		g.Waiting = r.anyTasks([]int{0, r.next(4), r.next(31), 30}[r.next(4)])
	}
	return g
}

func TestManyGoodGroups(t *testing.T) {
	r, codes := turns(55), map[int]int{}
	for range 1000 {
		g := r.anyGoodGroup()
		if !impl.GoodGroup(g) {
			t.Fatalf("%+v is not good", g)
		}
		expectGroupModel(t, g, []int{-g.Count, 1 - g.Count, r.next(2000003) - 1000001}, []int{r.next(30), r.next(32) - 1}, codes)
	}
	expectMet(t, codes, 50, impl.SyncDone, impl.SyncWaits, impl.SyncBad, impl.SyncBelow, impl.SyncBusy)
}

// Promise 14: groups of any numbers.
func TestAnyGroupIsAnswered(t *testing.T) {
	r, codes := turns(514), map[int]int{}
	for range 1000 {
		g := impl.Group{Count: r.anyInt()}
		for range r.next(2) * r.next(40) / (1 + r.next(10)) {
			g.Waiting = append(g.Waiting, r.anyInt())
		}
		expectGroupModel(t, g, []int{r.anyInt(), r.wideInt()}, []int{r.anyInt(), r.wideInt()}, codes)
	}
}
