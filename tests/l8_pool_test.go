package tests

import (
	"maps"
	"math"
	"slices"
	"strconv"
	"testing"

	"loop.example/g00145/impl"
)

func works(state int, ids ...int) []impl.Work {
	var list []impl.Work
	for _, id := range ids {
		list = append(list, impl.Work{Id: id, State: state})
	}
	return list
}

// waiting, running, finished, failed and leftOut make works short enough to be read in a row.
func waiting(ids ...int) []impl.Work { return works(impl.WorkWaits, ids...) }

func running(ids ...int) []impl.Work { return works(impl.WorkRuns, ids...) }

func finished(ids ...int) []impl.Work { return works(impl.WorkDone, ids...) }

func leftOut(ids ...int) []impl.Work { return works(impl.WorkLeft, ids...) }

func failed(fault int, ids ...int) []impl.Work {
	list := works(impl.WorkFailed, ids...)
	for k := range list {
		list[k].Fault = fault
	}
	return list
}

func pool(most, fault int, lists ...[]impl.Work) impl.Pool {
	return impl.Pool{Most: most, Fault: fault, Works: slices.Concat(lists...)}
}

func TestPoolConstants(t *testing.T) {
	got := []int{impl.MaxWork, impl.PoolOk, impl.PoolBad, impl.PoolFull, impl.PoolNone, impl.PoolStopped, impl.PoolTwice}
	if want := []int{40, 0, 1, 2, 3, 4, 5}; !slices.Equal(got, want) {
		t.Error(got, want)
	}
	states := []int{impl.WorkWaits, impl.WorkRuns, impl.WorkDone, impl.WorkFailed, impl.WorkLeft}
	if want := []int{1, 2, 3, 4, 5}; !slices.Equal(states, want) {
		t.Error(states, want)
	}
}

func goodPools() map[string]impl.Pool {
	return map[string]impl.Pool{
		"the least Most, no works":       pool(1, 0),
		"the greatest Most, no works":    pool(20, 0),
		"the empty list":                 {Most: 3, Works: []impl.Work{}},
		"one waits":                      pool(1, 0, waiting(4)),
		"one runs":                       pool(1, 0, running(4)),
		"one is done":                    pool(1, 0, finished(4)),
		"one failed":                     pool(1, 7, failed(7, 4)),
		"some of each, no fault":         pool(2, 0, finished(9), running(1), waiting(7, 3), running(2), finished(8), waiting(0)),
		"some of each, a fault":          pool(2, 5, finished(9), running(1), failed(5, 7), leftOut(3, 8), running(2), leftOut(0)),
		"Most run, Most 1":               pool(1, 0, running(4), waiting(5)),
		"Most run, Most 20":              pool(20, 0, running(countUp(0, 20)...), waiting(countUp(20, 20)...)),
		"one less than Most run":         pool(20, 0, running(countUp(0, 19)...), waiting(countUp(19, 21)...)),
		"Most run behind a fault":        pool(2, 6, failed(6, 1), running(2, 3), leftOut(4)),
		"39 works":                       pool(1, 0, waiting(countUp(0, 39)...)),
		"40 wait":                        pool(1, 0, waiting(countUp(0, 40)...)),
		"40 are done":                    pool(1, 0, finished(countUp(-20, 40)...)),
		"40 failed":                      pool(1, 9, failed(9, countUp(0, 40)...)),
		"40, one failed and 39 are left": pool(1, 9, failed(9, 7), leftOut(countUp(8, 39)...)),
		"a fault of 1":                   pool(3, 1, failed(1, 4)),
		"a fault of 1000000":             pool(3, 1000000, failed(1000000, 4)),
		"faults at their ends":           pool(3, 1, failed(1000000, 4), failed(1, 5)),
		"the other fault is the first":   pool(3, 1000000, failed(1000000, 4), failed(1, 5)),
		"another fault ahead of it":      pool(3, 7, failed(8, 4), failed(7, 5)),
		"other faults all around":        pool(3, 7, failed(8, 4), failed(6, 3), failed(7, 5), failed(1, 2)),
		"one fault twice":                pool(3, 7, failed(7, 4, 5)),
		"the fault at the end of 40":     pool(3, 7, leftOut(countUp(0, 39)...), failed(7, 99)),
		"ids at their ends":              pool(3, 0, waiting(math.MinInt, 0, -1), running(math.MaxInt)),
		"ids at their ends, a fault":     pool(3, 4, failed(4, math.MinInt), leftOut(math.MaxInt), running(0)),
		"a fault as an id":               pool(3, 4, failed(4, 7), finished(4)),
	}
}

// badWorks are bad in any pool.
func badWorks() map[string][]impl.Work {
	lists := map[string][]impl.Work{
		"an id twice, next to each other": running(4, 4),
		"an id twice, far apart":          finished(append(countUp(0, 39), 0)...),
		"an id twice, one between":        finished(4, 5, 4),
		"an id twice at the end":          finished(append(countUp(0, 39), 38)...),
		"an id twice, the states differ":  slices.Concat(finished(4), running(4)),
		"the id 0 twice":                  finished(0, 0),
		"the least id twice":              finished(math.MinInt, 1, math.MinInt),
		"the greatest id twice":           finished(math.MaxInt, math.MaxInt),
		"41 are done":                     finished(countUp(0, 41)...),
		"far too many":                    finished(countUp(0, 3000)...),
		"far too many, all alike":         slices.Repeat(finished(1), 3000),
	}
	for _, state := range []int{math.MinInt, -1, 0, 6, math.MaxInt} {
		name := "State " + strconv.Itoa(state)
		lists[name] = works(state, 4)
		lists[name+" behind others"] = slices.Concat(finished(1, 2), works(state, 4))
		lists[name+" with a fault"] = []impl.Work{{Id: 4, State: state, Fault: 7}}
		lists[name+" last of 40"] = append(finished(countUp(0, 39)...), works(state, 40)...)
	}
	for _, fault := range []int{math.MinInt, -1, 0, 1000001, math.MaxInt} {
		name := "failed with " + strconv.Itoa(fault)
		lists[name] = failed(fault, 4)
		lists[name+" behind others"] = slices.Concat(failed(7, 1), finished(2), failed(fault, 4))
	}
	for _, state := range []int{impl.WorkWaits, impl.WorkRuns, impl.WorkDone, impl.WorkLeft} {
		for _, fault := range []int{math.MinInt, -1, 1, 7, 1000000, 1000001, math.MaxInt} {
			name := "State " + strconv.Itoa(state) + " with the fault " + strconv.Itoa(fault)
			lists[name] = []impl.Work{{Id: 4, State: state, Fault: fault}}
			lists[name+" behind one that failed"] = slices.Concat(failed(7, 1), lists[name])
		}
	}
	return lists
}

func badPools() map[string]impl.Pool {
	pools := map[string]impl.Pool{
		"nothing":                         {},
		"one more than Most run, Most 1":  pool(1, 0, running(4, 5)),
		"one more than Most run, Most 19": pool(19, 0, running(countUp(0, 20)...)),
		"one more than Most run, Most 20": pool(20, 0, running(countUp(0, 21)...)),
		"one too many runs, far apart":    pool(2, 0, running(1), finished(2), running(3), waiting(4), running(5)),
		"one too many runs, a fault":      pool(2, 5, running(1), failed(5, 2), running(3, 4)),
		"40 run":                          pool(20, 0, running(countUp(0, 40)...)),
		"41 wait":                         pool(1, 0, waiting(countUp(0, 41)...)),
		"41, one failed":                  pool(1, 5, failed(5, 50), leftOut(countUp(0, 40)...)),
		"Fault 0, one failed":             pool(3, 0, failed(5, 4)),
		"Fault 0, one failed behind":      pool(3, 0, finished(1), running(2), failed(1000000, 4)),
		"Fault 0, one is left":            pool(3, 0, leftOut(4)),
		"Fault 0, one is left behind":     pool(3, 0, finished(1), waiting(2), leftOut(4)),
		"Fault 0, one failed, one left":   pool(3, 0, failed(5, 4), leftOut(5)),
		"a fault, no works":               pool(3, 5),
		"a fault that none has":           pool(3, 5, finished(1), running(5), leftOut(2)),
		"a fault, another has failed":     pool(3, 5, failed(6, 4)),
		"a fault, many others":            pool(3, 5, failed(6, 4), failed(4, 5), failed(1, 6), failed(1000000, 7)),
		"a fault as an id":                pool(3, 5, failed(6, 5), leftOut(4)),
		"a fault as Most":                 pool(5, 5, failed(6, 4)),
		"a fault, one waits":              pool(3, 5, failed(5, 4), waiting(6)),
		"a fault, one waits ahead":        pool(3, 5, waiting(6), failed(5, 4), leftOut(7)),
		"a fault, the last of 40 waits":   pool(3, 5, failed(5, 50), leftOut(countUp(0, 38)...), waiting(51)),
		"a fault, none has it, one waits": pool(3, 5, waiting(6)),
		"a fault, another, one waits":     pool(3, 5, failed(6, 4), waiting(6)),
	}
	for _, most := range []int{math.MinInt, -1, 0, 21, math.MaxInt} {
		name := "Most " + strconv.Itoa(most)
		pools[name] = pool(most, 0)
		pools[name+", works"] = pool(most, 0, running(4), waiting(5))
		pools[name+", a fault"] = pool(most, 5, failed(5, 4))
	}
	for _, fault := range []int{math.MinInt, -1, 1000001, math.MaxInt} {
		name := "Fault " + strconv.Itoa(fault)
		pools[name] = pool(3, fault)
		pools[name+", works"] = pool(3, fault, running(4), finished(5))
		pools[name+", one has it"] = pool(3, fault, failed(fault, 4))
		pools[name+", one failed"] = pool(3, fault, failed(5, 4), leftOut(5))
	}
	for name, list := range badWorks() {
		pools[name+", no fault"] = pool(20, 0, list)
		pools[name+", a fault"] = pool(20, 7, failed(7, -70), list)
	}
	return pools
}

func TestGoodPool(t *testing.T) {
	for name, p := range goodPools() {
		t.Run(name, func(t *testing.T) { expectCall(t, impl.GoodPool, in(p), true) })
	}
	for name, p := range badPools() {
		t.Run(name, func(t *testing.T) { expectCall(t, impl.GoodPool, in(p), false) })
	}
}

func TestBadPoolIsRefused(t *testing.T) {
	for name, p := range badPools() {
		t.Run(name, func(t *testing.T) {
			for _, id := range []int{math.MinInt, 4, 5, math.MaxInt} {
				expectCall(t, impl.AddWork, in(p, id), impl.Pool{}, impl.PoolBad)
				for _, fault := range []int{math.MinInt, 0, 7, math.MaxInt} {
					expectCall(t, impl.EndWork, in(p, id, fault), impl.Pool{}, []int{}, impl.PoolBad)
				}
			}
			expectCall(t, impl.StartNext, in(p), impl.Pool{}, 0, impl.PoolBad)
			expectCall(t, impl.RunningIn, in(p), []int{}, false)
			expectCall(t, impl.SettledIn, in(p), false, 0, false)
		})
	}
}

func TestAddWork(t *testing.T) {
	some := pool(2, 0, finished(9), running(1), waiting(7, 3))
	full := pool(2, 0, running(0), waiting(countUp(1, 39)...))
	stopped := pool(2, 5, failed(5, 9), running(1), leftOut(7, 3))
	over := pool(2, 5, failed(5, 0), leftOut(countUp(1, 39)...))
	for name, c := range map[string]struct {
		p    impl.Pool
		id   int
		next impl.Pool
		code int
	}{
		"the first":                        {pool(1, 0), 4, pool(1, 0, waiting(4)), impl.PoolOk},
		"behind the others":                {some, 4, pool(2, 0, some.Works, waiting(4)), impl.PoolOk},
		"where all are done":               {pool(1, 0, finished(1, 2)), 0, pool(1, 0, finished(1, 2), waiting(0)), impl.PoolOk},
		"where Most run":                   {pool(1, 0, running(1)), 2, pool(1, 0, running(1), waiting(2)), impl.PoolOk},
		"the id 0":                         {some, 0, pool(2, 0, some.Works, waiting(0)), impl.PoolOk},
		"the least id":                     {some, math.MinInt, pool(2, 0, some.Works, waiting(math.MinInt)), impl.PoolOk},
		"the greatest id":                  {some, math.MaxInt, pool(2, 0, some.Works, waiting(math.MaxInt)), impl.PoolOk},
		"Most as an id":                    {some, 2, pool(2, 0, some.Works, waiting(2)), impl.PoolOk},
		"the last of 40":                   {pool(20, 0, waiting(countUp(0, 39)...)), 39, pool(20, 0, waiting(countUp(0, 40)...)), impl.PoolOk},
		"stopped":                          {stopped, 4, stopped, impl.PoolStopped},
		"stopped, all is settled":          {pool(1, 5, failed(5, 9)), 4, pool(1, 5, failed(5, 9)), impl.PoolStopped},
		"stopped by 1":                     {pool(1, 1, failed(1, 9)), 4, pool(1, 1, failed(1, 9)), impl.PoolStopped},
		"stopped by 1000000":               {pool(1, 1000000, failed(1000000, 9)), 4, pool(1, 1000000, failed(1000000, 9)), impl.PoolStopped},
		"one that waits":                   {some, 3, some, impl.PoolTwice},
		"one that runs":                    {some, 1, some, impl.PoolTwice},
		"one that is done":                 {some, 9, some, impl.PoolTwice},
		"the least id that is there":       {pool(1, 0, waiting(math.MinInt)), math.MinInt, pool(1, 0, waiting(math.MinInt)), impl.PoolTwice},
		"the greatest id that is there":    {pool(1, 0, running(math.MaxInt)), math.MaxInt, pool(1, 0, running(math.MaxInt)), impl.PoolTwice},
		"one more than 40":                 {full, 40, full, impl.PoolFull},
		"one more than 40 that are done":   {pool(1, 0, finished(countUp(0, 40)...)), -1, pool(1, 0, finished(countUp(0, 40)...)), impl.PoolFull},
		"stopped ahead of twice":           {stopped, 7, stopped, impl.PoolStopped},
		"stopped ahead of twice, failed":   {stopped, 9, stopped, impl.PoolStopped},
		"stopped ahead of full":            {over, 40, over, impl.PoolStopped},
		"twice ahead of full":              {full, 39, full, impl.PoolTwice},
		"twice ahead of full, the first":   {full, 0, full, impl.PoolTwice},
		"stopped ahead of twice and full":  {over, 39, over, impl.PoolStopped},
		"bad ahead of stopped":             {pool(0, 5, failed(5, 9)), 4, impl.Pool{}, impl.PoolBad},
		"bad ahead of twice":               {pool(1, 0, running(1, 2)), 1, impl.Pool{}, impl.PoolBad},
		"bad ahead of full, 41 are there":  {pool(1, 0, waiting(countUp(0, 41)...)), 41, impl.Pool{}, impl.PoolBad},
		"bad ahead of all three, a waiter": {pool(1, 5, failed(5, 0), waiting(countUp(1, 39)...)), 1, impl.Pool{}, impl.PoolBad},
	} {
		t.Run(name, func(t *testing.T) { expectCall(t, impl.AddWork, in(c.p, c.id), c.next, c.code) })
	}
}

func TestStartNext(t *testing.T) {
	stopped := pool(3, 5, failed(5, 9), running(1), leftOut(7, 3))
	for name, c := range map[string]struct {
		p    impl.Pool
		next impl.Pool
		id   int
		code int
	}{
		"the only one":                 {pool(1, 0, waiting(4)), pool(1, 0, running(4)), 4, impl.PoolOk},
		"the first that waits":         {pool(2, 0, finished(9), running(1), waiting(7, 3)), pool(2, 0, finished(9), running(1, 7), waiting(3)), 7, impl.PoolOk},
		"not the least id":             {pool(9, 0, waiting(8, 2, 5)), pool(9, 0, running(8), waiting(2, 5)), 8, impl.PoolOk},
		"ahead of one that runs":       {pool(2, 0, waiting(4), running(5), waiting(6)), pool(2, 0, running(4, 5), waiting(6)), 4, impl.PoolOk},
		"the last of them":             {pool(2, 0, finished(1, 2), running(3), waiting(4)), pool(2, 0, finished(1, 2), running(3, 4)), 4, impl.PoolOk},
		"the id 0":                     {pool(2, 0, waiting(0, 1)), pool(2, 0, running(0), waiting(1)), 0, impl.PoolOk},
		"the least id":                 {pool(2, 0, waiting(math.MinInt, 1)), pool(2, 0, running(math.MinInt), waiting(1)), math.MinInt, impl.PoolOk},
		"the greatest id":              {pool(2, 0, waiting(math.MaxInt, 1)), pool(2, 0, running(math.MaxInt), waiting(1)), math.MaxInt, impl.PoolOk},
		"one less than Most run":       {pool(20, 0, running(countUp(0, 19)...), waiting(19, 20)), pool(20, 0, running(countUp(0, 20)...), waiting(20)), 19, impl.PoolOk},
		"the last of 40":               {pool(1, 0, finished(countUp(0, 39)...), waiting(39)), pool(1, 0, finished(countUp(0, 39)...), running(39)), 39, impl.PoolOk},
		"the first of 40":              {pool(1, 0, waiting(countUp(0, 40)...)), pool(1, 0, running(0), waiting(countUp(1, 39)...)), 0, impl.PoolOk},
		"no works":                     {pool(1, 0), pool(1, 0), 0, impl.PoolNone},
		"none waits, one runs":         {pool(2, 0, running(4)), pool(2, 0, running(4)), 0, impl.PoolNone},
		"none waits, all are done":     {pool(2, 0, finished(4, 5)), pool(2, 0, finished(4, 5)), 0, impl.PoolNone},
		"none waits behind a fault":    {stopped, stopped, 0, impl.PoolNone},
		"Most run, Most 1":             {pool(1, 0, running(4), waiting(5)), pool(1, 0, running(4), waiting(5)), 0, impl.PoolFull},
		"Most run, Most 20":            {pool(20, 0, running(countUp(0, 20)...), waiting(20)), pool(20, 0, running(countUp(0, 20)...), waiting(20)), 0, impl.PoolFull},
		"Most run, it waits ahead":     {pool(2, 0, waiting(3), running(4, 5)), pool(2, 0, waiting(3), running(4, 5)), 0, impl.PoolFull},
		"Most run, others are done":    {pool(2, 0, finished(1), running(4), finished(2), running(5), waiting(6)), pool(2, 0, finished(1), running(4), finished(2), running(5), waiting(6)), 0, impl.PoolFull},
		"none waits ahead of Most run": {pool(1, 0, running(4)), pool(1, 0, running(4)), 0, impl.PoolNone},
		"none waits and 20 run":        {pool(20, 0, running(countUp(0, 20)...)), pool(20, 0, running(countUp(0, 20)...)), 0, impl.PoolNone},
		"none waits, Most run, fault":  {pool(1, 5, failed(5, 1), running(4)), pool(1, 5, failed(5, 1), running(4)), 0, impl.PoolNone},
		"bad ahead of none":            {pool(0, 0), impl.Pool{}, 0, impl.PoolBad},
		"bad ahead of full":            {pool(1, 0, running(4, 5), waiting(6)), impl.Pool{}, 0, impl.PoolBad},
		"bad, a fault and one waits":   {pool(1, 5, failed(5, 4), waiting(6)), impl.Pool{}, 0, impl.PoolBad},
	} {
		t.Run(name, func(t *testing.T) { expectCall(t, impl.StartNext, in(c.p), c.next, c.id, c.code) })
	}
}

type poolEnding struct {
	p     impl.Pool
	id    int
	fault int
	next  impl.Pool
	left  []int
	code  int
}

func expectEndings(t *testing.T, endings map[string]poolEnding) {
	t.Helper()
	for name, c := range endings {
		t.Run(name, func(t *testing.T) { expectCall(t, impl.EndWork, in(c.p, c.id, c.fault), c.next, c.left, c.code) })
	}
}

func TestEndWorkThatIsDone(t *testing.T) {
	some := pool(3, 0, finished(9), running(1), waiting(7, 3), running(2), waiting(0))
	expectEndings(t, map[string]poolEnding{
		"the only one":            {pool(1, 0, running(4)), 4, 0, pool(1, 0, finished(4)), nil, impl.PoolOk},
		"the first that runs":     {some, 1, 0, pool(3, 0, finished(9, 1), waiting(7, 3), running(2), waiting(0)), nil, impl.PoolOk},
		"the last that runs":      {some, 2, 0, pool(3, 0, finished(9), running(1), waiting(7, 3), finished(2), waiting(0)), nil, impl.PoolOk},
		"the least id":            {pool(2, 0, running(math.MinInt, 1)), math.MinInt, 0, pool(2, 0, finished(math.MinInt), running(1)), nil, impl.PoolOk},
		"the greatest id":         {pool(2, 0, running(math.MaxInt, 1)), math.MaxInt, 0, pool(2, 0, finished(math.MaxInt), running(1)), nil, impl.PoolOk},
		"the id 0":                {pool(2, 0, running(1, 0)), 0, 0, pool(2, 0, running(1), finished(0)), nil, impl.PoolOk},
		"the last of 40":          {pool(1, 0, finished(countUp(0, 39)...), running(39)), 39, 0, pool(1, 0, finished(countUp(0, 40)...)), nil, impl.PoolOk},
		"one of 20, others wait":  {pool(20, 0, running(countUp(0, 20)...), waiting(countUp(20, 20)...)), 0, 0, pool(20, 0, finished(0), running(countUp(1, 19)...), waiting(countUp(20, 20)...)), nil, impl.PoolOk},
		"behind a fault":          {pool(2, 5, failed(5, 9), running(1), leftOut(7), running(2)), 2, 0, pool(2, 5, failed(5, 9), running(1), leftOut(7), finished(2)), nil, impl.PoolOk},
		"the last behind a fault": {pool(2, 5, running(1), failed(5, 9)), 1, 0, pool(2, 5, finished(1), failed(5, 9)), nil, impl.PoolOk},
	})
}

func TestEndWorkWithTheFirstFault(t *testing.T) {
	some := pool(3, 0, finished(9), running(1), waiting(7, 3), running(2), waiting(0))
	expectEndings(t, map[string]poolEnding{
		"the only one":                 {pool(1, 0, running(4)), 4, 5, pool(1, 5, failed(5, 4)), nil, impl.PoolOk},
		"the least fault":              {pool(1, 0, running(4), waiting(5)), 4, 1, pool(1, 1, failed(1, 4), leftOut(5)), []int{5}, impl.PoolOk},
		"the greatest fault":           {pool(1, 0, running(4), waiting(5)), 4, 1000000, pool(1, 1000000, failed(1000000, 4), leftOut(5)), []int{5}, impl.PoolOk},
		"others wait and run":          {some, 1, 5, pool(3, 5, finished(9), failed(5, 1), leftOut(7, 3), running(2), leftOut(0)), []int{7, 3, 0}, impl.PoolOk},
		"the other one that runs":      {some, 2, 5, pool(3, 5, finished(9), running(1), leftOut(7, 3), failed(5, 2), leftOut(0)), []int{7, 3, 0}, impl.PoolOk},
		"others run, none waits":       {pool(3, 0, running(1, 2, 3)), 2, 6, pool(3, 6, running(1), failed(6, 2), running(3)), nil, impl.PoolOk},
		"those ahead of it are left":   {pool(1, 0, waiting(8, 6), running(7)), 7, 6, pool(1, 6, leftOut(8, 6), failed(6, 7)), []int{8, 6}, impl.PoolOk},
		"told in order, not by id":     {pool(1, 0, running(7), waiting(5, 9, -1, 0)), 7, 6, pool(1, 6, failed(6, 7), leftOut(5, 9, -1, 0)), []int{5, 9, -1, 0}, impl.PoolOk},
		"39 are left":                  {pool(1, 0, running(0), waiting(countUp(1, 39)...)), 0, 6, pool(1, 6, failed(6, 0), leftOut(countUp(1, 39)...)), countUp(1, 39), impl.PoolOk},
		"19 go on, 20 are left":        {pool(20, 0, running(countUp(0, 20)...), waiting(countUp(20, 20)...)), 19, 6, pool(20, 6, running(countUp(0, 19)...), failed(6, 19), leftOut(countUp(20, 20)...)), countUp(20, 20), impl.PoolOk},
		"ids at their ends":            {pool(1, 0, waiting(math.MaxInt), running(0), waiting(math.MinInt)), 0, 6, pool(1, 6, leftOut(math.MaxInt), failed(6, 0), leftOut(math.MinInt)), []int{math.MaxInt, math.MinInt}, impl.PoolOk},
		"the least id fails":           {pool(1, 0, running(math.MinInt), waiting(1)), math.MinInt, 6, pool(1, 6, failed(6, math.MinInt), leftOut(1)), []int{1}, impl.PoolOk},
		"a fault that is another's id": {pool(2, 0, running(3, 4), waiting(5)), 3, 4, pool(2, 4, failed(4, 3), running(4), leftOut(5)), []int{5}, impl.PoolOk},
	})
}

func TestEndWorkWithALaterFault(t *testing.T) {
	stopped := pool(3, 5, finished(9), failed(5, 1), leftOut(7, 3), running(2), leftOut(0), running(4))
	expectEndings(t, map[string]poolEnding{
		"another fault":         {stopped, 2, 6, pool(3, 5, finished(9), failed(5, 1), leftOut(7, 3), failed(6, 2), leftOut(0), running(4)), nil, impl.PoolOk},
		"the same fault":        {stopped, 2, 5, pool(3, 5, finished(9), failed(5, 1), leftOut(7, 3), failed(5, 2), leftOut(0), running(4)), nil, impl.PoolOk},
		"the least fault":       {stopped, 4, 1, pool(3, 5, finished(9), failed(5, 1), leftOut(7, 3), running(2), leftOut(0), failed(1, 4)), nil, impl.PoolOk},
		"the greatest fault":    {stopped, 4, 1000000, pool(3, 5, finished(9), failed(5, 1), leftOut(7, 3), running(2), leftOut(0), failed(1000000, 4)), nil, impl.PoolOk},
		"by a work ahead of it": {pool(2, 5, running(1), failed(5, 2)), 1, 6, pool(2, 5, failed(6, 1), failed(5, 2)), nil, impl.PoolOk},
		"the third fault":       {pool(2, 5, failed(6, 1), failed(5, 2), running(3)), 3, 7, pool(2, 5, failed(6, 1), failed(5, 2), failed(7, 3)), nil, impl.PoolOk},
		"behind 1":              {pool(2, 1, failed(1, 2), running(3)), 3, 1000000, pool(2, 1, failed(1, 2), failed(1000000, 3)), nil, impl.PoolOk},
		"behind 1000000":        {pool(2, 1000000, failed(1000000, 2), running(3)), 3, 1, pool(2, 1000000, failed(1000000, 2), failed(1, 3)), nil, impl.PoolOk},
		"the last one of 40":    {pool(1, 5, failed(5, 0), leftOut(countUp(1, 38)...), running(39)), 39, 6, pool(1, 5, failed(5, 0), leftOut(countUp(1, 38)...), failed(6, 39)), nil, impl.PoolOk},
		"the last that runs":    {pool(1, 5, failed(5, 0), running(1)), 1, 9, pool(1, 5, failed(5, 0), failed(9, 1)), nil, impl.PoolOk},
	})
}

func TestEndWorkIsRefused(t *testing.T) {
	some := pool(3, 0, finished(9), running(1), waiting(7, 3), running(2))
	stopped := pool(3, 5, finished(9), failed(5, 1), leftOut(7, 3), running(2))
	endings := map[string]poolEnding{
		"no works, no fault": {pool(1, 0), 0, 0, pool(1, 0), nil, impl.PoolNone},
		"no works, a fault":  {pool(1, 0), 4, 5, pool(1, 0), nil, impl.PoolNone},
		"bad ahead of none":  {pool(1, 0, running(1, 2)), 9, 0, impl.Pool{}, nil, impl.PoolBad},
		"bad, and it runs":   {pool(1, 5, failed(5, 1), waiting(2), running(3)), 3, 0, impl.Pool{}, nil, impl.PoolBad},
	}
	for _, fault := range []int{0, 1, 5, 1000000} {
		for name, id := range map[string]int{"done": 9, "waits first": 7, "waits last": 3, "Most": 3, "a State": 4, "0": 0, "the least": math.MinInt, "the greatest": math.MaxInt} {
			endings["none: "+name+", "+strconv.Itoa(fault)] = poolEnding{some, id, fault, some, nil, impl.PoolNone}
		}
		for name, id := range map[string]int{"done": 9, "failed": 1, "left first": 7, "left last": 3, "its fault": 5, "0": 0, "the least": math.MinInt, "the greatest": math.MaxInt} {
			endings["none behind a fault: "+name+", "+strconv.Itoa(fault)] = poolEnding{stopped, id, fault, stopped, nil, impl.PoolNone}
		}
	}
	for _, fault := range []int{math.MinInt, -1, 1000001, math.MaxInt} {
		for _, id := range []int{1, 2, 7, 9, 4, math.MinInt, math.MaxInt} {
			name := strconv.Itoa(id) + " with " + strconv.Itoa(fault)
			endings[name] = poolEnding{some, id, fault, impl.Pool{}, nil, impl.PoolBad}
			endings[name+" behind a fault"] = poolEnding{stopped, id, fault, impl.Pool{}, nil, impl.PoolBad}
		}
		endings["no works, "+strconv.Itoa(fault)] = poolEnding{pool(1, 0), 0, fault, impl.Pool{}, nil, impl.PoolBad}
	}
	expectEndings(t, endings)
}

func TestRunningAndSettledIn(t *testing.T) {
	for name, c := range map[string]struct {
		p       impl.Pool
		runs    []int
		settled bool
		fault   int
	}{
		"no works":                    {pool(1, 0), nil, true, 0},
		"one waits":                   {pool(1, 0, waiting(4)), nil, false, 0},
		"one runs":                    {pool(1, 0, running(4)), []int{4}, false, 0},
		"one is done":                 {pool(1, 0, finished(4)), nil, true, 0},
		"one failed":                  {pool(1, 7, failed(7, 4)), nil, true, 7},
		"the last of 40 waits":        {pool(1, 0, finished(countUp(0, 39)...), waiting(39)), nil, false, 0},
		"the last of 40 runs":         {pool(1, 0, finished(countUp(0, 39)...), running(39)), []int{39}, false, 0},
		"the first of 40 waits":       {pool(1, 0, waiting(0), finished(countUp(1, 39)...)), nil, false, 0},
		"40 are done":                 {pool(1, 0, finished(countUp(0, 40)...)), nil, true, 0},
		"40 wait":                     {pool(1, 0, waiting(countUp(0, 40)...)), nil, false, 0},
		"told in order, not by id":    {pool(5, 0, running(7), waiting(1), running(2, 9), finished(3), running(0)), []int{7, 2, 9, 0}, false, 0},
		"20 run":                      {pool(20, 0, finished(99), running(countUp(0, 20)...)), countUp(0, 20), false, 0},
		"a fault, some run":           {pool(3, 5, failed(5, 1), running(8), leftOut(2), running(4)), []int{8, 4}, false, 5},
		"a fault, nobody runs":        {pool(3, 5, failed(5, 1), leftOut(2), finished(4)), nil, true, 5},
		"a fault ahead of others":     {pool(3, 1, failed(1000000, 4), failed(1, 5)), nil, true, 1},
		"the greatest fault":          {pool(3, 1000000, failed(1, 4), failed(1000000, 5)), nil, true, 1000000},
		"the least and greatest run":  {pool(3, 0, running(math.MaxInt, 0, math.MinInt)), []int{math.MaxInt, 0, math.MinInt}, false, 0},
		"the last one runs, a fault":  {pool(1, 5, failed(5, 0), leftOut(countUp(1, 38)...), running(39)), []int{39}, false, 5},
		"one waits where others done": {pool(1, 0, finished(1), waiting(2), finished(3)), nil, false, 0},
	} {
		t.Run(name, func(t *testing.T) {
			expectCall(t, impl.RunningIn, in(c.p), c.runs, true)
			expectCall(t, impl.SettledIn, in(c.p), c.settled, c.fault, true)
		})
	}
}

func TestEmptyListsInAPool(t *testing.T) {
	for _, p := range []impl.Pool{{Most: 3}, {Most: 3, Works: []impl.Work{}}, {Most: 3, Works: make([]impl.Work, 0, 5)}} {
		added, _ := impl.AddWork(p, 4)
		begun, _, _ := impl.StartNext(added)
		none, _, code := impl.StartNext(p)
		same, left, other := impl.EndWork(p, 4, 5)
		_, quiet, _ := impl.EndWork(begun, 4, 0)
		_, alone, _ := impl.EndWork(begun, 4, 5)
		runs, _ := impl.RunningIn(p)
		if code != impl.PoolNone || other != impl.PoolNone || none.Works != nil || same.Works != nil {
			t.Errorf("%#v %#v", none, same)
		}
		if left != nil || quiet != nil || alone != nil || runs != nil {
			t.Errorf("%#v %#v %#v %#v", left, quiet, alone, runs)
		}
	}
}

// Two pools may lie behind one another in one memory: what is put behind one of them must not run into the next.
func TestPoolsInOneMemory(t *testing.T) {
	memory := slices.Concat(running(1), waiting(2, 3), running(4), waiting(5))
	before := slices.Clone(memory)
	first := impl.Pool{Most: 2, Works: memory[:3]}
	second := impl.Pool{Most: 2, Works: memory[3:]}
	added, _ := impl.AddWork(first, 9)
	begun, _, _ := impl.StartNext(first)
	over, left, _ := impl.EndWork(first, 1, 6)
	other, _, _ := impl.EndWork(second, 4, 0)
	if !slices.Equal(memory, before) {
		t.Error("written into:", memory)
	}
	for _, c := range []struct{ got, want impl.Pool }{
		{added, pool(2, 0, running(1), waiting(2, 3, 9))},
		{begun, pool(2, 0, running(1, 2), waiting(3))},
		{over, pool(2, 6, failed(6, 1), leftOut(2, 3))},
		{other, pool(2, 0, finished(4), waiting(5))},
	} {
		if !sameValues([]any{c.got}, []any{c.want}) {
			t.Errorf("%+v, not %+v", c.got, c.want)
		}
	}
	if !slices.Equal(left, []int{2, 3}) {
		t.Error(left)
	}
}

func expectPoolModel(t *testing.T, p impl.Pool, ids, faults []int, codes map[int]int) {
	t.Helper()
	expectCall(t, impl.GoodPool, in(p), modelGoodPool(p))
	runs, yes := modelRunningIn(p)
	expectCall(t, impl.RunningIn, in(p), runs, yes)
	settled, fault, yes := modelSettledIn(p)
	expectCall(t, impl.SettledIn, in(p), settled, fault, yes)
	next, id, code := modelStartNext(p)
	expectCall(t, impl.StartNext, in(p), next, id, code)
	codes[code]++
	for _, id := range ids {
		next, code := modelAddWork(p, id)
		expectCall(t, impl.AddWork, in(p, id), next, code)
		codes[code]++
		for _, fault := range faults {
			next, left, code := modelEndWork(p, id, fault)
			expectCall(t, impl.EndWork, in(p, id, fault), next, left, code)
			codes[code]++
		}
	}
}

func TestThePoolTablesAgainstTheModel(t *testing.T) {
	codes := map[int]int{}
	all := goodPools()
	maps.Copy(all, badPools())
	for name, p := range all {
		t.Run(name, func(t *testing.T) {
			expectPoolModel(t, p, []int{1, 4, 99}, []int{-1, 0, 7}, codes)
		})
	}
	expectMet(t, codes, 10, impl.PoolOk, impl.PoolBad, impl.PoolNone, impl.PoolStopped, impl.PoolTwice)
	expectMet(t, codes, 3, impl.PoolFull)
}

func TestAllSmallPools(t *testing.T) {
	var kinds []impl.Work
	for _, id := range []int{0, 7} {
		for state := range 7 {
			for _, fault := range []int{-1, 0, 1, 2, 1000000, 1000001} {
				kinds = append(kinds, impl.Work{Id: id, State: state, Fault: fault})
			}
		}
	}
	met, codes := 0, map[int]int{}
	for _, list := range listsOf(kinds, 2) {
		for _, most := range []int{0, 1, 2, 20, 21} {
			for _, fault := range []int{-1, 0, 1, 2, 1000000, 1000001} {
				p := pool(most, fault, list)
				if got := impl.GoodPool(p); got != modelGoodPool(p) {
					t.Fatalf("GoodPool of %+v: %v", p, got)
				}
				if modelGoodPool(p) {
					met++
					expectPoolModel(t, p, []int{0, 7, 8}, []int{-1, 0, 1, 2, 1000000, 1000001}, codes)
				}
			}
		}
	}
	// Where Fault is 0: 1 without works, 2 times 3 with one, and with two 2 times 9, of which 2 have two that run and Most 1.
	// Each of the three faults: 2 with one work; with two 2 times (both failed: 5; one failed, the other runs, is done or left: 6).
	if want := 3*(1+6+18) - 2 + 3*3*(2+2*11); met != want {
		t.Errorf("not all good pools were met: %d of %d", met, want)
	}
	expectMet(t, codes, 10, impl.PoolOk, impl.PoolBad, impl.PoolNone, impl.PoolStopped, impl.PoolTwice)
}

func TestAllGoodPoolsOfThree(t *testing.T) {
	var kinds []impl.Work
	for place := range 3 {
		id := []int{5, -2, 8}[place]
		kinds = append(kinds, slices.Concat(waiting(id), running(id), finished(id), leftOut(id), failed(1, id), failed(2, id))...)
	}
	met, codes := 0, map[int]int{}
	for _, list := range listsOf(kinds, 3) {
		if len(list) < 3 || list[0].Id != 5 || list[1].Id != -2 || list[2].Id != 8 {
			continue
		}
		for most := 1; most <= 3; most++ {
			for fault := range 3 {
				if p := pool(most, fault, list); impl.GoodPool(p) || modelGoodPool(p) {
					met++
					expectPoolModel(t, p, []int{5, -2, 8, 0}, []int{0, 1, 2}, codes)
				}
			}
		}
	}
	if met < 200 {
		t.Error("met too seldom:", met)
	}
	expectMet(t, codes, 10, impl.PoolOk, impl.PoolFull, impl.PoolNone, impl.PoolStopped, impl.PoolTwice)
}
