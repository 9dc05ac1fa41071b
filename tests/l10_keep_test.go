package tests

import (
	"maps"
	"math"
	"slices"
	"strconv"
	"strings"
	"testing"

	"loop.example/g00145/impl"
)

// runsOf makes Runs short enough to be read in a row: + runs, - does not.
func runsOf(text string) []bool {
	var runs []bool
	for _, c := range text {
		runs = append(runs, c == '+')
	}
	return runs
}

func oneKeeper(maxR, within int, runs string, faults ...int) impl.Keeper {
	return impl.Keeper{Kind: impl.KeepOne, MaxR: maxR, Within: within, Up: -1, Runs: runsOf(runs), Faults: faults}
}

func restKeeper(maxR, within int, runs string, faults ...int) impl.Keeper {
	return impl.Keeper{Kind: impl.KeepRest, MaxR: maxR, Within: within, Up: -1, Runs: runsOf(runs), Faults: faults}
}

func under(up, child int, k impl.Keeper) impl.Keeper {
	k.Up, k.Child = up, child
	return k
}

// over is the keeper when it has given up.
func over(k impl.Keeper) impl.Keeper {
	k.Over, k.Runs, k.Faults = true, make([]bool, len(k.Runs)), nil
	return k
}

// anew is the keeper when it has begun anew.
func anew(k impl.Keeper) impl.Keeper {
	k.Over, k.Runs, k.Faults = false, slices.Repeat([]bool{true}, len(k.Runs)), nil
	return k
}

func withFaults(k impl.Keeper, faults ...int) impl.Keeper {
	k.Faults = faults
	return k
}

func keepers(l ...impl.Keeper) []impl.Keeper { return l }

// acts are told as a row of keeper, what is done (- stopped, + started, ! gives up) and child.
func acts(text string) []impl.Act {
	var all []impl.Act
	for _, word := range strings.Fields(text) {
		a := impl.Act{Keeper: int(word[0] - '0'), Kind: 1 + strings.IndexByte("-+!", word[1])}
		if a.Kind != impl.ActGiveUp {
			a.Child = int(word[2] - '0')
		}
		all = append(all, a)
	}
	return all
}

func TestKeeperConstants(t *testing.T) {
	got := []int{impl.MaxChildren, impl.MaxKeepers, impl.KeepOne, impl.KeepRest, impl.ActStop, impl.ActStart, impl.ActGiveUp,
		impl.KeepOk, impl.KeepBad, impl.KeepNone, impl.KeepBack}
	if want := []int{10, 8, 1, 2, 1, 2, 3, 0, 1, 2, 3}; !slices.Equal(got, want) {
		t.Error(got, want)
	}
}

func goodKeepers() map[string]impl.Keeper {
	all := map[string]impl.Keeper{
		"KeepOne":                     oneKeeper(3, 5, "++", 1, 2),
		"KeepRest":                    restKeeper(3, 5, "++", 1, 2),
		"MaxR 0":                      oneKeeper(0, 5, "++"),
		"MaxR 10":                     restKeeper(10, 5, "++"),
		"MaxR 10, 10 Faults":          restKeeper(10, 5, "++", countUp(7, 10)...),
		"MaxR 10, 9 Faults":           oneKeeper(10, 5, "++", countUp(7, 9)...),
		"MaxR 1, 1 Fault":             oneKeeper(1, 5, "++", 7),
		"Within 1":                    oneKeeper(3, 1, "++", 7),
		"Within 1000":                 restKeeper(3, 1000, "++", 7),
		"1 child":                     oneKeeper(3, 5, "+", 7),
		"1 child that does not run":   restKeeper(3, 5, "-", 7),
		"10 children":                 restKeeper(3, 5, "++++++++++", 7),
		"10, of which some run":       oneKeeper(3, 5, "+-+-+--++-", 7),
		"10, of which none runs":      oneKeeper(3, 5, "----------", 7),
		"a fault at 0":                oneKeeper(3, 5, "++", 0),
		"a fault at 1000000":          oneKeeper(3, 5, "++", 1000000),
		"from 0 to 1000000":           restKeeper(3, 5, "++", 0, 500000, 1000000),
		"equal faults":                restKeeper(3, 5, "++", 7, 7, 7),
		"equal faults at 0":           restKeeper(3, 5, "++", 0, 0, 0),
		"equal faults at 1000000":     oneKeeper(3, 5, "++", 1000000, 1000000, 1000000),
		"rising, then equal":          oneKeeper(3, 5, "++", 6, 7, 7),
		"further apart than Within":   oneKeeper(3, 1, "++", 6, 70, 700),
		"it is Over":                  over(oneKeeper(3, 5, "++")),
		"it is Over, one child":       over(restKeeper(0, 1, "+")),
		"it is Over, 10 children":     over(restKeeper(10, 1000, "++++++++++")),
		"it is Over, the empty list":  {Kind: 1, MaxR: 3, Within: 5, Runs: make([]bool, 3), Faults: []int{}, Over: true},
		"the empty list":              {Kind: 2, MaxR: 0, Within: 5, Runs: []bool{true}, Faults: []int{}},
		"none runs and it isn't Over": oneKeeper(3, 5, "--", 7),
	}
	for _, up := range []int{math.MinInt, -2, -1, 0, 1, 7, math.MaxInt} {
		for _, child := range []int{math.MinInt, -1, 0, 1, 9, 10, math.MaxInt} {
			name := "Up " + strconv.Itoa(up) + ", Child " + strconv.Itoa(child)
			all[name] = under(up, child, restKeeper(2, 5, "+-+", 7))
			all[name+", Over"] = under(up, child, over(oneKeeper(2, 5, "+++")))
		}
	}
	return all
}

func badKeepers() map[string]impl.Keeper {
	all := map[string]impl.Keeper{
		"nothing":                       {},
		"no children":                   oneKeeper(3, 5, "", 7),
		"no children, Over":             over(oneKeeper(3, 5, "")),
		"the empty list of children":    {Kind: 1, MaxR: 3, Within: 5, Runs: []bool{}},
		"11 children":                   restKeeper(3, 5, "+++++++++++", 7),
		"11 that do not run":            restKeeper(3, 5, "-----------", 7),
		"11 that do not run, Over":      over(restKeeper(3, 5, "-----------")),
		"far too many children":         oneKeeper(3, 5, strings.Repeat("+", 3000)),
		"MaxR 0, 1 Fault":               oneKeeper(0, 5, "++", 7),
		"MaxR 1, 2 Faults":              restKeeper(1, 5, "++", 7, 8),
		"MaxR 10, 11 Faults":            oneKeeper(10, 5, "++", countUp(7, 11)...),
		"MaxR 9, 10 Faults":             oneKeeper(9, 5, "++", countUp(7, 10)...),
		"far too many Faults":           restKeeper(10, 5, "++", countUp(7, 3000)...),
		"MaxR 11, 11 Faults":            oneKeeper(11, 5, "++", countUp(7, 11)...),
		"a fault at -1":                 oneKeeper(3, 5, "++", -1),
		"a fault at 1000001":            oneKeeper(3, 5, "++", 1000001),
		"the least fault":               oneKeeper(3, 5, "++", math.MinInt),
		"the greatest fault":            oneKeeper(3, 5, "++", math.MaxInt),
		"a fault at -1, then good ones": oneKeeper(3, 5, "++", -1, 7, 8),
		"good ones, then 1000001":       oneKeeper(3, 5, "++", 7, 8, 1000001),
		"falling by one":                oneKeeper(3, 5, "++", 8, 7),
		"falling far":                   restKeeper(3, 5, "++", 1000000, 0),
		"falling in the midst":          restKeeper(10, 5, "++", 1, 8, 7, 9),
		"falling at the end":            restKeeper(10, 5, "++", 1, 8, 9, 2),
		"equal, then falling":           oneKeeper(10, 5, "++", 8, 8, 7),
		"Over, the first runs":          {Kind: 1, MaxR: 3, Within: 5, Runs: runsOf("+--"), Over: true},
		"Over, the last runs":           {Kind: 2, MaxR: 3, Within: 5, Runs: runsOf("--+"), Over: true},
		"Over, all run":                 {Kind: 2, MaxR: 3, Within: 5, Runs: runsOf("+++"), Over: true},
		"Over, Faults":                  {Kind: 1, MaxR: 3, Within: 5, Runs: runsOf("---"), Faults: []int{7}, Over: true},
		"Over, Faults, one runs":        {Kind: 1, MaxR: 3, Within: 5, Runs: runsOf("-+-"), Faults: []int{0}, Over: true},
	}
	for _, kind := range []int{math.MinInt, -1, 0, 3, 4, math.MaxInt} {
		k := oneKeeper(3, 5, "++", 7)
		k.Kind = kind
		all["Kind "+strconv.Itoa(kind)] = k
		all["Kind "+strconv.Itoa(kind)+", Over"] = over(k)
	}
	for _, maxR := range []int{math.MinInt, -1, 11, math.MaxInt} {
		all["MaxR "+strconv.Itoa(maxR)] = oneKeeper(maxR, 5, "++")
		all["MaxR "+strconv.Itoa(maxR)+", a fault"] = restKeeper(maxR, 5, "++", 7)
		all["MaxR "+strconv.Itoa(maxR)+", Over"] = over(restKeeper(maxR, 5, "++"))
	}
	for _, within := range []int{math.MinInt, -1, 0, 1001, math.MaxInt} {
		all["Within "+strconv.Itoa(within)] = restKeeper(3, within, "++", 7)
		all["Within "+strconv.Itoa(within)+", Over"] = over(oneKeeper(3, within, "++"))
	}
	return all
}

func TestGoodKeeper(t *testing.T) {
	for name, k := range goodKeepers() {
		t.Run(name, func(t *testing.T) { expectCall(t, impl.GoodKeeper, in(k), true) })
	}
	for name, k := range badKeepers() {
		t.Run(name, func(t *testing.T) { expectCall(t, impl.GoodKeeper, in(k), false) })
	}
}

func TestBadKeeperIsRefused(t *testing.T) {
	for name, k := range badKeepers() {
		t.Run(name, func(t *testing.T) {
			for _, child := range []int{math.MinInt, -1, 0, 1, 10, math.MaxInt} {
				for _, tick := range []int{math.MinInt, -1, 0, 7, 1000000, 1000001, math.MaxInt} {
					expectCall(t, impl.FailChild, in(k, child, tick), impl.Keeper{}, []impl.Act{}, impl.KeepBad)
				}
			}
			expectCall(t, impl.GoodKeepers, in(keepers(under(-1, 0, k))), false)
			expectCall(t, impl.FailIn, in(keepers(under(-1, 0, k)), 0, 0, 7), []impl.Keeper{}, []impl.Act{}, impl.KeepBad)
			expectCall(t, impl.StopOrder, in(keepers(under(-1, 0, k))), []impl.Act{}, false)
		})
	}
}

func TestFailChildThatBeginsAnew(t *testing.T) {
	ten := "++++++++++"
	for name, c := range map[string]struct {
		k      impl.Keeper
		child  int
		tick   int
		faults []int
		told   string
	}{
		"KeepOne, the only one":             {oneKeeper(1, 5, "+"), 0, 7, []int{7}, "0+0"},
		"KeepOne, the first":                {oneKeeper(1, 5, "+++"), 0, 7, []int{7}, "0+0"},
		"KeepOne, between two":              {oneKeeper(1, 5, "+++"), 1, 7, []int{7}, "0+1"},
		"KeepOne, the last":                 {oneKeeper(1, 5, "+++"), 2, 7, []int{7}, "0+2"},
		"KeepOne, others do not run":        {oneKeeper(1, 5, "-+-"), 1, 7, []int{7}, "0+1"},
		"KeepOne, the tenth":                {oneKeeper(1, 5, ten), 9, 7, []int{7}, "0+9"},
		"KeepOne, the first of ten":         {oneKeeper(1, 5, ten), 0, 7, []int{7}, "0+0"},
		"KeepRest, the only one":            {restKeeper(1, 5, "+"), 0, 7, []int{7}, "0+0"},
		"KeepRest, no later child":          {restKeeper(1, 5, "+++"), 2, 7, []int{7}, "0+2"},
		"KeepRest, no later that runs":      {restKeeper(1, 5, "++--"), 1, 7, []int{7}, "0+1"},
		"KeepRest, one later":               {restKeeper(1, 5, "+++"), 1, 7, []int{7}, "0-2 0+1 0+2"},
		"KeepRest, one later that runs":     {restKeeper(1, 5, "++-+-"), 1, 7, []int{7}, "0-3 0+1 0+3"},
		"KeepRest, several":                 {restKeeper(1, 5, "++++"), 0, 7, []int{7}, "0-3 0-2 0-1 0+0 0+1 0+2 0+3"},
		"KeepRest, some that do not run":    {restKeeper(1, 5, "-+-++-+"), 1, 7, []int{7}, "0-6 0-4 0-3 0+1 0+3 0+4 0+6"},
		"KeepRest, the first of ten":        {restKeeper(1, 5, ten), 0, 7, []int{7}, "0-9 0-8 0-7 0-6 0-5 0-4 0-3 0-2 0-1 0+0 0+1 0+2 0+3 0+4 0+5 0+6 0+7 0+8 0+9"},
		"KeepRest, the tenth":               {restKeeper(1, 5, ten), 9, 7, []int{7}, "0+9"},
		"at the tick 0":                     {oneKeeper(1, 5, "+"), 0, 0, []int{0}, "0+0"},
		"at the tick 0, again":              {oneKeeper(2, 5, "+", 0), 0, 0, []int{0, 0}, "0+0"},
		"at the tick 1000000":               {oneKeeper(1, 5, "+"), 0, 1000000, []int{1000000}, "0+0"},
		"at the tick 1000000, again":        {oneKeeper(3, 1000, "+", 999000, 999001, 1000000), 0, 1000000, []int{999001, 1000000, 1000000}, "0+0"},
		"the last of Faults at the tick":    {oneKeeper(3, 5, "+", 6, 7), 0, 7, []int{6, 7, 7}, "0+0"},
		"the last of Faults one ahead":      {oneKeeper(3, 5, "+", 5, 6), 0, 7, []int{5, 6, 7}, "0+0"},
		"a fault at tick - Within goes":     {oneKeeper(3, 5, "+", 15), 0, 20, []int{20}, "0+0"},
		"a fault one above it stays":        {oneKeeper(3, 5, "+", 16), 0, 20, []int{16, 20}, "0+0"},
		"a fault one below it goes":         {oneKeeper(3, 5, "+", 14), 0, 20, []int{20}, "0+0"},
		"all three":                         {restKeeper(3, 5, "+-+", 14, 15, 16), 0, 20, []int{16, 20}, "0-2 0+0 0+2"},
		"MaxR of them, one goes":            {oneKeeper(3, 5, "++", 15, 16, 17), 1, 20, []int{16, 17, 20}, "0+1"},
		"MaxR of them, all go":              {oneKeeper(3, 5, "++", 1, 1, 15), 1, 20, []int{20}, "0+1"},
		"as many as MaxR then":              {oneKeeper(3, 5, "++", 16, 17), 1, 20, []int{16, 17, 20}, "0+1"},
		"MaxR 1, one that goes":             {oneKeeper(1, 5, "++", 15), 1, 20, []int{20}, "0+1"},
		"Within 1, one tick later":          {restKeeper(1, 1, "++", 19), 0, 20, []int{20}, "0-1 0+0 0+1"},
		"Within 1, the same tick":           {restKeeper(2, 1, "++", 20), 0, 20, []int{20, 20}, "0-1 0+0 0+1"},
		"Within 1000, 1000 later":           {restKeeper(1, 1000, "++", 20), 1, 1020, []int{1020}, "0+1"},
		"Within 1000, 999 later":            {restKeeper(2, 1000, "++", 20), 1, 1019, []int{20, 1019}, "0+1"},
		"Within reaches below 0":            {oneKeeper(3, 1000, "+", 0, 0), 0, 5, []int{0, 0, 5}, "0+0"},
		"tick - Within is 0":                {oneKeeper(3, 5, "+", 0, 1), 0, 5, []int{1, 5}, "0+0"},
		"MaxR 10, 9 stay":                   {oneKeeper(10, 9, "+", countUp(11, 10)...), 0, 20, []int{12, 13, 14, 15, 16, 17, 18, 19, 20, 20}, "0+0"},
		"MaxR 10, all of one tick":          {oneKeeper(10, 9, "+", slices.Repeat([]int{20}, 9)...), 0, 20, slices.Repeat([]int{20}, 10), "0+0"},
		"a child whose tick is its own one": {oneKeeper(10, 9, "++++", 1, 2), 3, 3, []int{1, 2, 3}, "0+3"},
	} {
		t.Run(name, func(t *testing.T) {
			want := c.k
			want.Faults = c.faults
			expectCall(t, impl.FailChild, in(c.k, c.child, c.tick), want, acts(c.told), impl.KeepOk)
			// Whoever it stands for is not looked at, and stays.
			for _, up := range []int{math.MinInt, -1, 0, 1, math.MaxInt} {
				for _, child := range []int{math.MinInt, c.child, c.child + 1, math.MaxInt} {
					expectCall(t, impl.FailChild, in(under(up, child, c.k), c.child, c.tick), under(up, child, want), acts(c.told), impl.KeepOk)
				}
			}
		})
	}
}

func TestFailChildThatGivesUp(t *testing.T) {
	for name, c := range map[string]struct {
		k     impl.Keeper
		child int
		tick  int
		told  string
	}{
		"MaxR 0, the only one":           {oneKeeper(0, 5, "+"), 0, 7, "0!"},
		"MaxR 0, KeepRest":               {restKeeper(0, 5, "+"), 0, 7, "0!"},
		"MaxR 0, at the tick 0":          {oneKeeper(0, 5, "++"), 0, 0, "0-1 0!"},
		"MaxR 0, at the tick 1000000":    {oneKeeper(0, 5, "++"), 0, 1000000, "0-1 0!"},
		"MaxR 0, Within 1":               {oneKeeper(0, 1, "++"), 1, 7, "0-0 0!"},
		"the first fails":                {oneKeeper(0, 5, "+++"), 0, 7, "0-2 0-1 0!"},
		"the one in the midst fails":     {oneKeeper(0, 5, "+++"), 1, 7, "0-2 0-0 0!"},
		"the last fails":                 {oneKeeper(0, 5, "+++"), 2, 7, "0-1 0-0 0!"},
		"the first fails, KeepRest":      {restKeeper(0, 5, "+++"), 0, 7, "0-2 0-1 0!"},
		"the midst fails, KeepRest":      {restKeeper(0, 5, "+++"), 1, 7, "0-2 0-0 0!"},
		"the last fails, KeepRest":       {restKeeper(0, 5, "+++"), 2, 7, "0-1 0-0 0!"},
		"no other runs":                  {restKeeper(0, 5, "-+--"), 1, 7, "0!"},
		"some do not run":                {restKeeper(0, 5, "+-+-++-"), 4, 7, "0-5 0-2 0-0 0!"},
		"ten":                            {oneKeeper(0, 5, "++++++++++"), 5, 7, "0-9 0-8 0-7 0-6 0-4 0-3 0-2 0-1 0-0 0!"},
		"ten, the last fails":            {restKeeper(0, 5, "++++++++++"), 9, 7, "0-8 0-7 0-6 0-5 0-4 0-3 0-2 0-1 0-0 0!"},
		"MaxR 1, one more":               {oneKeeper(1, 5, "++", 16), 0, 20, "0-1 0!"},
		"MaxR 1, one more, at its tick":  {oneKeeper(1, 1, "++", 20), 0, 20, "0-1 0!"},
		"MaxR 3, one above the limit":    {oneKeeper(3, 5, "++", 16, 17, 17), 0, 20, "0-1 0!"},
		"MaxR 3, all of one tick":        {restKeeper(3, 1, "++", 20, 20, 20), 0, 20, "0-1 0!"},
		"MaxR 10, one more":              {restKeeper(10, 10, "++", countUp(11, 10)...), 1, 20, "0-0 0!"},
		"MaxR 10, Within 1000":           {oneKeeper(10, 1000, "++", append([]int{1}, countUp(900, 9)...)...), 1, 1000, "0-0 0!"},
		"Within reaches below 0":         {oneKeeper(1, 1000, "++", 0), 1, 5, "0-0 0!"},
		"from 0 to Within less one":      {oneKeeper(1, 5, "++", 0), 1, 4, "0-0 0!"},
		"at the tick 1000000, the third": {oneKeeper(2, 5, "++", 999996, 1000000), 1, 1000000, "0-0 0!"},
	} {
		t.Run(name, func(t *testing.T) {
			expectCall(t, impl.FailChild, in(c.k, c.child, c.tick), over(c.k), acts(c.told), impl.KeepOk)
			// Up is not looked at: it fails nowhere else, and its own child is not taken for its keeper's.
			for _, up := range []int{math.MinInt, -1, 0, 1, math.MaxInt} {
				for _, child := range []int{math.MinInt, 0, c.child, c.child + 1, math.MaxInt} {
					expectCall(t, impl.FailChild, in(under(up, child, c.k), c.child, c.tick), under(up, child, over(c.k)), acts(c.told), impl.KeepOk)
				}
			}
		})
	}
}

func TestFailChildIsRefused(t *testing.T) {
	some := restKeeper(3, 5, "+-+", 6, 7)
	behind := restKeeper(3, 5, "+-+", 6, 8)
	for _, k := range []impl.Keeper{some, behind, over(some), oneKeeper(0, 1, "+++"), restKeeper(3, 5, "---", 1000000)} {
		// A tick that is none is looked for ahead of all else.
		for _, tick := range []int{math.MinInt, -1, 1000001, math.MaxInt} {
			for _, child := range []int{math.MinInt, -1, 0, 1, 2, 3, math.MaxInt} {
				expectCall(t, impl.FailChild, in(k, child, tick), impl.Keeper{}, []impl.Act{}, impl.KeepBad)
			}
		}
		// No such child, whatever the last of Faults.
		for _, tick := range []int{0, 5, 6, 7, 8, 1000000} {
			for _, child := range []int{math.MinInt, -1, 3, 10, math.MaxInt} {
				expectCall(t, impl.FailChild, in(k, child, tick), k, []impl.Act{}, impl.KeepNone)
			}
		}
	}
	for _, tick := range []int{0, 6, 7, 8, 1000000} {
		expectCall(t, impl.FailChild, in(some, 1, tick), some, []impl.Act{}, impl.KeepNone)
		expectCall(t, impl.FailChild, in(behind, 1, tick), behind, []impl.Act{}, impl.KeepNone)
		for child := range 3 {
			expectCall(t, impl.FailChild, in(over(some), child, tick), over(some), []impl.Act{}, impl.KeepNone)
			none := restKeeper(3, 5, "---", 1000000)
			expectCall(t, impl.FailChild, in(none, child, tick), none, []impl.Act{}, impl.KeepNone)
		}
	}
	// The last of Faults counts, not the first, and the tick itself is none that is behind.
	for _, child := range []int{0, 2} {
		for _, tick := range []int{0, 1, 5, 6, 7} {
			expectCall(t, impl.FailChild, in(behind, child, tick), behind, []impl.Act{}, impl.KeepBack)
		}
		late := oneKeeper(1, 1000, "+++", 1000000)
		for _, tick := range []int{0, 1000, 999999} {
			expectCall(t, impl.FailChild, in(late, child, tick), late, []impl.Act{}, impl.KeepBack)
		}
		full := oneKeeper(2, 5, "+++", 7, 9)
		expectCall(t, impl.FailChild, in(full, child, 8), full, []impl.Act{}, impl.KeepBack)
	}
}

// eightKeepers stand for children of one another: of 0 1 and 2, of 1 3, of 2 4, of 4 5, of 5 6, of 6 7.
func eightKeepers() []impl.Keeper {
	return keepers(
		oneKeeper(1, 5, "++++"),
		under(0, 1, restKeeper(1, 5, "++")),
		under(0, 3, oneKeeper(1, 5, "++")),
		under(1, 0, oneKeeper(1, 5, "++")),
		under(2, 1, restKeeper(1, 5, "+++")),
		under(4, 1, oneKeeper(1, 5, "++")),
		under(5, 0, oneKeeper(1, 5, "++")),
		under(6, 1, oneKeeper(1, 5, "+")),
	)
}

func goodKeeperLists() map[string][]impl.Keeper {
	lists := map[string][]impl.Keeper{
		"one":                            keepers(oneKeeper(1, 5, "+")),
		"one of any Child":               keepers(under(-1, 77, oneKeeper(1, 5, "+"))),
		"one of the least Child":         keepers(under(-1, math.MinInt, oneKeeper(1, 5, "+"))),
		"one of the greatest Child":      keepers(under(-1, math.MaxInt, oneKeeper(1, 5, "+"))),
		"one that is Over":               keepers(over(oneKeeper(1, 5, "+"))),
		"one, none runs":                 keepers(oneKeeper(1, 5, "--", 7)),
		"eight":                          eightKeepers(),
		"two, Child 0":                   keepers(oneKeeper(1, 5, "+++"), under(0, 0, restKeeper(2, 5, "+"))),
		"two, the last Child":            keepers(oneKeeper(1, 5, "+++"), under(0, 2, restKeeper(2, 5, "+"))),
		"two, Child 9":                   keepers(oneKeeper(1, 5, "++++++++++"), under(0, 9, restKeeper(2, 5, "+"))),
		"both have the same Child":       keepers(under(-1, 1, oneKeeper(1, 5, "++")), under(0, 1, restKeeper(2, 5, "+"))),
		"three at two children":          keepers(oneKeeper(1, 5, "++"), under(0, 1, oneKeeper(1, 5, "+")), under(0, 0, oneKeeper(1, 5, "+"))),
		"a row of three":                 keepers(oneKeeper(1, 5, "++"), under(0, 1, oneKeeper(1, 5, "++")), under(1, 1, oneKeeper(1, 5, "+"))),
		"one number of two keepers":      keepers(oneKeeper(1, 5, "++"), under(0, 0, oneKeeper(1, 5, "++")), under(1, 0, oneKeeper(1, 5, "+"))),
		"a child that does not run":      keepers(oneKeeper(1, 5, "-+"), under(0, 0, over(oneKeeper(1, 5, "++")))),
		"none of whom runs":              keepers(oneKeeper(1, 5, "--"), under(0, 0, over(oneKeeper(1, 5, "++"))), under(1, 0, over(oneKeeper(1, 5, "++")))),
		"Over where its child runs":      keepers(oneKeeper(1, 5, "++"), under(0, 0, over(oneKeeper(1, 5, "++")))),
		"all are Over":                   keepers(over(oneKeeper(1, 5, "++")), under(0, 0, over(oneKeeper(1, 5, "++"))), under(1, 1, over(restKeeper(1, 5, "++")))),
		"its child runs, its own do not": keepers(oneKeeper(1, 5, "++"), under(0, 0, oneKeeper(1, 5, "--", 9))),
		"Faults behind those ahead":      keepers(oneKeeper(1, 5, "++", 4), under(0, 0, oneKeeper(1, 5, "++", 9)), under(1, 0, oneKeeper(1, 5, "++", 2))),
	}
	wide := keepers(restKeeper(10, 1000, "++++++++++", countUp(5, 10)...))
	deep := keepers(restKeeper(10, 1000, "++++++++++", countUp(5, 10)...))
	for k := range 7 {
		wide = append(wide, under(0, 9-k, oneKeeper(10, 1, "++++++++++", countUp(k, 10)...)))
		deep = append(deep, under(k, k, restKeeper(10, 1, "++++++++++", countUp(k, 10)...)))
	}
	lists["eight, wide"], lists["eight, deep"] = wide, deep
	return lists
}

func badKeeperLists() map[string][]impl.Keeper {
	one := oneKeeper(1, 5, "++")
	lists := map[string][]impl.Keeper{
		"none":                           {},
		"nine":                           append(eightKeepers(), under(0, 0, oneKeeper(1, 5, "+"))),
		"nine, the last one bad":         append(eightKeepers(), impl.Keeper{}),
		"far too many":                   slices.Repeat(keepers(one), 300),
		"the first one's Up 0":           keepers(under(0, 0, one)),
		"the first one's Up -2":          keepers(under(-2, 0, one)),
		"the first one's Up at the end":  keepers(under(math.MaxInt, 0, one)),
		"the first one's Up, the least":  keepers(under(math.MinInt, 0, one)),
		"the first one's Up behind it":   keepers(under(1, 0, one), under(0, 0, one)),
		"Up -1 of the second":            keepers(one, under(-1, 0, one)),
		"Up -1 of the third":             keepers(one, under(0, 0, one), under(-1, 1, one)),
		"Up of the second at itself":     keepers(one, under(1, 0, one)),
		"Up of the second behind it":     keepers(one, under(2, 0, one), under(0, 1, one)),
		"Up of the third at itself":      keepers(one, under(0, 0, one), under(2, 0, one)),
		"Up of no keeper":                keepers(one, under(0, 0, one), under(3, 0, one)),
		"the least Up":                   keepers(one, under(math.MinInt, 0, one)),
		"the greatest Up":                keepers(one, under(math.MaxInt, 0, one)),
		"Child -1":                       keepers(one, under(0, -1, one)),
		"Child one more":                 keepers(one, under(0, 2, one)),
		"Child one more, Over":           keepers(one, under(0, 2, over(one))),
		"the least Child":                keepers(one, under(0, math.MinInt, one)),
		"the greatest Child":             keepers(one, under(0, math.MaxInt, one)),
		"Child of its own, not of Up's":  keepers(one, under(0, 2, oneKeeper(1, 5, "++++"))),
		"Child of the first's, not Up's": keepers(oneKeeper(1, 5, "++++"), under(0, 0, one), under(1, 2, one)),
		"two for one child":              keepers(one, under(0, 1, one), under(0, 1, one)),
		"two for one child, both Over":   keepers(one, under(0, 1, over(one)), under(0, 1, over(one))),
		"two for one, one between":       keepers(one, under(0, 1, one), under(0, 0, one), under(0, 1, one)),
		"two for one of the second":      keepers(one, under(0, 1, one), under(1, 0, one), under(1, 0, over(one))),
		"not Over, its child stands":     keepers(oneKeeper(1, 5, "-+"), under(0, 0, one)),
		"none of its own runs, not Over": keepers(oneKeeper(1, 5, "-+"), under(0, 0, oneKeeper(1, 5, "--"))),
		"not Over below one that is":     keepers(one, under(0, 0, over(one)), under(1, 0, one)),
		"not Over, all else is":          keepers(over(one), under(0, 0, one)),
		"eight, the last one's Up":       append(eightKeepers()[:7], under(7, 0, one)),
		"eight, the last one's Child":    append(eightKeepers()[:7], under(6, 2, one)),
	}
	for name, k := range badKeepers() {
		lists["the first: "+name] = keepers(under(-1, 0, k))
		lists["the second: "+name] = keepers(one, under(0, 1, k))
		lists["between: "+name] = keepers(one, under(0, 0, k), under(0, 1, one))
	}
	return lists
}

func TestGoodKeepers(t *testing.T) {
	for name, l := range goodKeeperLists() {
		t.Run(name, func(t *testing.T) { expectCall(t, impl.GoodKeepers, in(l), true) })
	}
	for name, l := range badKeeperLists() {
		t.Run(name, func(t *testing.T) { expectCall(t, impl.GoodKeepers, in(l), false) })
	}
}

func TestBadKeepersAreRefused(t *testing.T) {
	for name, l := range badKeeperLists() {
		t.Run(name, func(t *testing.T) {
			for _, keeper := range []int{math.MinInt, -1, 0, 1, 8, math.MaxInt} {
				for _, child := range []int{-1, 0, 1, 10} {
					expectCall(t, impl.FailIn, in(l, keeper, child, 7), []impl.Keeper{}, []impl.Act{}, impl.KeepBad)
				}
				expectCall(t, impl.FailIn, in(l, keeper, 0, -1), []impl.Keeper{}, []impl.Act{}, impl.KeepBad)
			}
			expectCall(t, impl.StopOrder, in(l), []impl.Act{}, false)
		})
	}
}

// changed are the keepers with some of them in the places of others.
func changed(l []impl.Keeper, others map[int]impl.Keeper) []impl.Keeper {
	next := slices.Clone(l)
	for number, k := range others {
		next[number] = k
	}
	return next
}

func TestFailInOfOne(t *testing.T) {
	for _, k := range []impl.Keeper{oneKeeper(2, 5, "++-+", 3, 7), restKeeper(2, 5, "++-+", 3, 7), over(oneKeeper(2, 5, "+"))} {
		for _, child := range []int{math.MinInt, -1, 0, 1, 2, 3, 4, math.MaxInt} {
			for _, tick := range []int{0, 6, 7, 8, 20, 1000000} {
				next, told, code := modelFailChild(k, child, tick)
				expectCall(t, impl.FailIn, in(keepers(k), 0, child, tick), keepers(next), told, code)
			}
		}
	}
}

func TestFailInThatBeginsAnew(t *testing.T) {
	l := eightKeepers()
	rest := changed(l, map[int]impl.Keeper{0: restKeeper(1, 5, "++++")})
	some := changed(rest, map[int]impl.Keeper{
		1: under(0, 1, restKeeper(1, 5, "++", 3)),
		2: under(0, 3, restKeeper(1, 5, "-+", 4)),
		3: under(1, 0, oneKeeper(2, 5, "+-", 1, 2)),
		4: under(2, 1, oneKeeper(1, 5, "-+-", 4)),
		5: under(4, 1, over(oneKeeper(1, 5, "++"))),
		6: under(5, 0, over(oneKeeper(1, 5, "++"))),
		7: under(6, 1, over(oneKeeper(1, 5, "+"))),
	})
	for name, c := range map[string]struct {
		l      []impl.Keeper
		keeper int
		child  int
		next   map[int]impl.Keeper
		told   string
	}{
		"KeepOne, in the first":          {l, 0, 0, map[int]impl.Keeper{0: withFaults(l[0], 7)}, "0+0"},
		"KeepOne, between two keepers":   {l, 0, 2, map[int]impl.Keeper{0: withFaults(l[0], 7)}, "0+2"},
		"KeepOne, in the last":           {l, 7, 0, map[int]impl.Keeper{7: withFaults(l[7], 7)}, "7+0"},
		"KeepRest, nobody behind":        {l, 1, 1, map[int]impl.Keeper{1: withFaults(l[1], 7)}, "1+1"},
		"KeepRest, 4 deep":               {l, 4, 0, map[int]impl.Keeper{4: withFaults(l[4], 7)}, "4-2 5-1 7-0 6-1 6-0 5-0 4-1 4+0 4+1 5+0 6+0 6+1 7+0 5+1 4+2"},
		"KeepRest, behind the keeper":    {l, 4, 2, map[int]impl.Keeper{4: withFaults(l[4], 7)}, "4+2"},
		"KeepRest, all behind the first": {rest, 0, 0, map[int]impl.Keeper{0: withFaults(rest[0], 7)}, "4-2 5-1 7-0 6-1 6-0 5-0 4-1 4-0 2-1 2-0 0-3 0-2 1-1 3-1 3-0 1-0 0-1 0+0 0+1 1+0 3+0 3+1 1+1 0+2 0+3 2+0 2+1 4+0 4+1 5+0 6+0 6+1 7+0 5+1 4+2"},
		"KeepRest, the last keeper's":    {rest, 0, 2, map[int]impl.Keeper{0: withFaults(rest[0], 7)}, "4-2 5-1 7-0 6-1 6-0 5-0 4-1 4-0 2-1 2-0 0-3 0+2 0+3 2+0 2+1 4+0 4+1 5+0 6+0 6+1 7+0 5+1 4+2"},
		"some that do not run": {some, 0, 0, map[int]impl.Keeper{
			0: withFaults(some[0], 7), 1: anew(some[1]), 2: anew(some[2]), 3: anew(some[3]), 4: anew(some[4]), 5: anew(some[5]), 6: anew(some[6]), 7: anew(some[7]),
		}, "4-1 2-1 0-3 0-2 1-1 3-0 1-0 0-1 0+0 0+1 1+0 3+0 3+1 1+1 0+2 0+3 2+0 2+1 4+0 4+1 5+0 6+0 6+1 7+0 5+1 4+2"},
	} {
		t.Run(name, func(t *testing.T) {
			expectCall(t, impl.FailIn, in(c.l, c.keeper, c.child, 7), changed(c.l, c.next), acts(c.told), impl.KeepOk)
		})
	}
}

func TestFailInThatGivesUp(t *testing.T) {
	l := eightKeepers()
	// Those ahead bear a fault more, or none.
	tired := changed(l, map[int]impl.Keeper{
		0: restKeeper(1, 5, "++++"),
		4: withFaults(l[4], 4), 5: withFaults(l[5], 5), 6: withFaults(l[6], 6), 7: withFaults(l[7], 7),
	})
	spent := changed(tired, map[int]impl.Keeper{0: restKeeper(1, 5, "++++", 3), 2: withFaults(l[2], 7)})
	some := changed(l, map[int]impl.Keeper{
		0: restKeeper(2, 5, "++++", 5),
		1: under(0, 1, restKeeper(1, 5, "-+", 6)),
		3: under(1, 0, over(l[3])),
		2: under(0, 3, restKeeper(1, 5, "-+", 6)),
		4: under(2, 1, restKeeper(1, 5, "-++")),
	})
	for name, c := range map[string]struct {
		l      []impl.Keeper
		keeper int
		child  int
		next   map[int]impl.Keeper
		told   string
	}{
		"one below the first": {changed(l, map[int]impl.Keeper{3: withFaults(l[3], 3)}), 3, 1, map[int]impl.Keeper{
			1: withFaults(l[1], 7), 3: l[3],
		}, "3-0 3! 1-1 1+0 3+0 3+1 1+1"},
		"its Up goes on alone": {changed(l, map[int]impl.Keeper{7: withFaults(l[7], 7)}), 7, 0, map[int]impl.Keeper{
			6: withFaults(l[6], 7), 7: l[7],
		}, "7! 6+1 7+0"},
		"four of them, one goes on": {tired, 7, 0, map[int]impl.Keeper{
			2: withFaults(l[2], 7), 4: l[4], 5: l[5], 6: l[6], 7: l[7],
		}, "7! 6-0 6! 5-1 5! 4-2 4-0 4! 2+1 4+0 4+1 5+0 6+0 6+1 7+0 5+1 4+2"},
		"up to the first, all is over": {spent, 7, 0, map[int]impl.Keeper{
			0: over(spent[0]), 1: over(l[1]), 2: over(l[2]), 3: over(l[3]), 4: over(l[4]), 5: over(l[5]), 6: over(l[6]), 7: over(l[7]),
		}, "7! 6-0 6! 5-1 5! 4-2 4-0 4! 2-0 2! 0-2 1-1 3-1 3-0 1-0 0-1 0-0 0!"},
		"up to the first, which goes on": {changed(spent, map[int]impl.Keeper{0: restKeeper(1, 5, "++++", 2)}), 7, 0, map[int]impl.Keeper{
			0: withFaults(spent[0], 7), 2: l[2], 4: l[4], 5: l[5], 6: l[6], 7: l[7],
		}, "7! 6-0 6! 5-1 5! 4-2 4-0 4! 2-0 2! 0+3 2+0 2+1 4+0 4+1 5+0 6+0 6+1 7+0 5+1 4+2"},
		"the first gives up at once": {changed(l, map[int]impl.Keeper{0: oneKeeper(0, 5, "++++")}), 0, 2, map[int]impl.Keeper{
			0: over(oneKeeper(0, 5, "++++")), 1: over(l[1]), 2: over(l[2]), 3: over(l[3]), 4: over(l[4]), 5: over(l[5]), 6: over(l[6]), 7: over(l[7]),
		}, "4-2 5-1 7-0 6-1 6-0 5-0 4-1 4-0 2-1 2-0 0-3 1-1 3-1 3-0 1-0 0-1 0-0 0!"},
		"others of it have keepers": {changed(l, map[int]impl.Keeper{4: under(2, 1, restKeeper(0, 5, "+++"))}), 4, 0, map[int]impl.Keeper{
			2: withFaults(l[2], 7), 4: under(2, 1, restKeeper(0, 5, "+++")),
		}, "4-2 5-1 7-0 6-1 6-0 5-0 4-1 4! 2+1 4+0 4+1 5+0 6+0 6+1 7+0 5+1 4+2"},
		"some do not run": {some, 1, 1, map[int]impl.Keeper{
			0: withFaults(some[0], 5, 7), 1: anew(some[1]), 2: anew(some[2]), 3: anew(some[3]), 4: anew(some[4]),
		}, "1! 4-2 5-1 7-0 6-1 6-0 5-0 4-1 2-1 0-3 0-2 0+1 1+0 3+0 3+1 1+1 0+2 0+3 2+0 2+1 4+0 4+1 5+0 6+0 6+1 7+0 5+1 4+2"},
	} {
		t.Run(name, func(t *testing.T) {
			expectCall(t, impl.FailIn, in(c.l, c.keeper, c.child, 7), changed(c.l, c.next), acts(c.told), impl.KeepOk)
		})
	}
}

// Faults of the Up that are behind the tick are taken as the tick, and the others as they are.
func TestFailInPassesOverKeepBack(t *testing.T) {
	low := under(0, 1, oneKeeper(0, 5, "+++"))
	lowest := under(1, 2, oneKeeper(0, 5, "++"))
	for name, c := range map[string]struct {
		first impl.Keeper
		next  impl.Keeper
		told  string
	}{
		"one behind":            {oneKeeper(2, 5, "+++", 9), oneKeeper(2, 5, "+++", 7, 7), "1-2 1-0 1! 0+1 1+0 1+1 1+2"},
		"one far behind":        {oneKeeper(2, 1, "+++", 1000000), oneKeeper(2, 1, "+++", 7, 7), "1-2 1-0 1! 0+1 1+0 1+1 1+2"},
		"one just behind":       {oneKeeper(2, 1, "+++", 8), oneKeeper(2, 1, "+++", 7, 7), "1-2 1-0 1! 0+1 1+0 1+1 1+2"},
		"one at the tick":       {oneKeeper(2, 1, "+++", 7), oneKeeper(2, 1, "+++", 7, 7), "1-2 1-0 1! 0+1 1+0 1+1 1+2"},
		"one ahead and two":     {oneKeeper(4, 5, "+++", 2, 3, 8, 9), oneKeeper(4, 5, "+++", 3, 7, 7, 7), "1-2 1-0 1! 0+1 1+0 1+1 1+2"},
		"as many as MaxR":       {restKeeper(3, 5, "+++", 8, 9), restKeeper(3, 5, "+++", 7, 7, 7), "1-2 1-0 1! 0-2 0+1 1+0 1+1 1+2 0+2"},
		"one more than MaxR":    {restKeeper(2, 5, "+++", 8, 9), over(restKeeper(2, 5, "+++")), "1-2 1-0 1! 0-2 0-0 0!"},
		"one, MaxR 1":           {oneKeeper(1, 1, "+++", 1000000), over(oneKeeper(1, 1, "+++")), "1-2 1-0 1! 0-2 0-0 0!"},
		"two ahead go, one not": {oneKeeper(3, 5, "+++", 1, 2, 8), oneKeeper(3, 5, "+++", 7, 7), "1-2 1-0 1! 0+1 1+0 1+1 1+2"},
	} {
		t.Run(name, func(t *testing.T) {
			below := low
			if c.next.Over {
				below = over(low)
			}
			expectCall(t, impl.FailIn, in(keepers(c.first, low), 1, 1, 7), keepers(c.next, below), acts(c.told), impl.KeepOk)
		})
	}
	// Two above one another are passed over likewise, the one in which it began is not.
	l := keepers(oneKeeper(2, 5, "+++", 8), under(0, 1, oneKeeper(1, 5, "+++", 9)), lowest)
	next := keepers(oneKeeper(2, 5, "+++", 7, 7), under(0, 1, oneKeeper(1, 5, "+++")), lowest)
	expectCall(t, impl.FailIn, in(l, 2, 0, 7), next, acts("2-1 2! 1-1 1-0 1! 0+1 1+0 1+1 1+2 2+0 2+1"), impl.KeepOk)
	expectCall(t, impl.FailIn, in(l, 1, 0, 7), l, []impl.Act{}, impl.KeepBack)
	expectCall(t, impl.FailIn, in(l, 0, 0, 7), l, []impl.Act{}, impl.KeepBack)
	expectCall(t, impl.FailIn, in(l, 0, 0, 8), changed(l, map[int]impl.Keeper{0: oneKeeper(2, 5, "+++", 8, 8)}), acts("0+0"), impl.KeepOk)
}

func TestFailInIsRefused(t *testing.T) {
	low := under(0, 1, oneKeeper(2, 5, "+-+", 5, 9))
	l := keepers(under(-1, 2, oneKeeper(3, 5, "++-+", 8)), low, under(0, 2, over(low)), under(1, 0, restKeeper(1, 5, "+")), under(1, 1, over(low)))
	if !impl.GoodKeepers(l) {
		t.Fatal("not good:", l)
	}
	none := []impl.Act{}
	for _, child := range []int{math.MinInt, -1, 0, 1, 2, 3, 4, math.MaxInt} {
		for _, tick := range []int{math.MinInt, -1, 0, 7, 9, 1000000, 1000001, math.MaxInt} {
			for _, keeper := range []int{math.MinInt, -2, -1, 5, 6, 8, math.MaxInt} {
				expectCall(t, impl.FailIn, in(l, keeper, child, tick), []impl.Keeper{}, none, impl.KeepBad)
			}
		}
		// A tick that is none is looked for ahead of the child.
		for _, tick := range []int{math.MinInt, -1, 1000001, math.MaxInt} {
			for keeper := range 5 {
				expectCall(t, impl.FailIn, in(l, keeper, child, tick), []impl.Keeper{}, none, impl.KeepBad)
			}
		}
	}
	for _, tick := range []int{0, 7, 8, 9, 1000000} {
		// A keeper stands for it, whether it runs or not: ahead of KeepNone, and of KeepBack.
		for _, c := range [][2]int{{0, 1}, {0, 2}, {1, 0}, {1, 1}} {
			expectCall(t, impl.FailIn, in(l, c[0], c[1], tick), []impl.Keeper{}, none, impl.KeepBad)
		}
		for _, child := range []int{math.MinInt, -1, 4, 10, math.MaxInt} {
			for keeper := range 5 {
				expectCall(t, impl.FailIn, in(l, keeper, child, tick), l, none, impl.KeepNone)
			}
		}
		// Over, or no such child: there is no keeper for the first one's Child.
		for _, c := range [][2]int{{2, 0}, {2, 1}, {2, 2}, {2, 3}, {3, 1}, {4, 0}, {4, 2}, {1, 3}} {
			expectCall(t, impl.FailIn, in(l, c[0], c[1], tick), l, none, impl.KeepNone)
		}
	}
	for _, tick := range []int{0, 6, 7} {
		expectCall(t, impl.FailIn, in(l, 0, 0, tick), l, none, impl.KeepBack)
		expectCall(t, impl.FailIn, in(l, 0, 3, tick), l, none, impl.KeepBack)
		expectCall(t, impl.FailIn, in(l, 1, 2, tick), l, none, impl.KeepBack)
	}
	expectCall(t, impl.FailIn, in(l, 1, 2, 8), l, none, impl.KeepBack)
}

func TestStopOrder(t *testing.T) {
	one := oneKeeper(1, 5, "+++")
	for name, c := range map[string]struct {
		l    []impl.Keeper
		told string
	}{
		"one":                       {keepers(one), "0-2 0-1 0-0"},
		"one, KeepRest":             {keepers(restKeeper(1, 5, "+++", 7)), "0-2 0-1 0-0"},
		"one of which some run":     {keepers(oneKeeper(1, 5, "+-+-")), "0-2 0-0"},
		"one of which none runs":    {keepers(oneKeeper(1, 5, "---", 7)), ""},
		"one that is Over":          {keepers(over(one)), ""},
		"ten":                       {keepers(oneKeeper(1, 5, "++++++++++")), "0-9 0-8 0-7 0-6 0-5 0-4 0-3 0-2 0-1 0-0"},
		"eight":                     {eightKeepers(), "4-2 5-1 7-0 6-1 6-0 5-0 4-1 4-0 2-1 2-0 0-3 0-2 1-1 3-1 3-0 1-0 0-1 0-0"},
		"a keeper for the last":     {keepers(one, under(0, 2, one)), "1-2 1-1 1-0 0-2 0-1 0-0"},
		"a keeper for the first":    {keepers(one, under(0, 0, one)), "0-2 0-1 1-2 1-1 1-0 0-0"},
		"the second for the last":   {keepers(one, under(0, 0, one), under(0, 2, one)), "2-2 2-1 2-0 0-2 0-1 1-2 1-1 1-0 0-0"},
		"a keeper that is Over":     {keepers(one, under(0, 1, over(one))), "0-2 0-1 0-0"},
		"a child that does not run": {keepers(oneKeeper(1, 5, "+-+"), under(0, 1, over(one))), "0-2 0-0"},
		"one whose own do not run":  {keepers(one, under(0, 1, oneKeeper(1, 5, "--"))), "0-2 0-1 0-0"},
		"all are Over":              {keepers(over(one), under(0, 1, over(one)), under(1, 1, over(one))), ""},
		"two below one":             {keepers(one, under(0, 1, one), under(1, 1, oneKeeper(1, 5, "-+-")), under(1, 2, oneKeeper(1, 5, "++-"))), "0-2 3-1 3-0 1-2 2-1 1-1 1-0 0-1 0-0"},
	} {
		t.Run(name, func(t *testing.T) { expectCall(t, impl.StopOrder, in(c.l), acts(c.told), true) })
	}
}

func TestBackoffOf(t *testing.T) {
	for _, c := range [][4]int{
		{1, 10, 60, 10}, {2, 10, 60, 20}, {3, 10, 60, 40}, {4, 10, 60, 60}, {30, 10, 60, 60},
		{3, 15, 60, 60}, {3, 15, 59, 59}, {3, 15, 61, 60}, {1, 60, 60, 60}, {1, 61, 60, 60}, {1, 59, 60, 59},
		{1, 0, 0, 0}, {30, 0, 1000000000, 0}, {1, 0, 5, 0}, {1, 7, 0, 0}, {30, 7, 0, 0},
		{1, 1, 1, 1}, {30, 1, 1000000000, 536870912}, {29, 1, 1000000000, 268435456}, {30, 1, 536870912, 536870912}, {30, 1, 536870911, 536870911},
		{30, 2, 1000000000, 1000000000}, {29, 3, 1000000000, 805306368}, {29, 4, 1000000000, 1000000000},
		{1, 1000000, 1000000000, 1000000}, {10, 1000000, 1000000000, 512000000}, {11, 1000000, 1000000000, 1000000000}, {30, 1000000, 1000000000, 1000000000},
		{10, 976562, 1000000000, 499999744}, {11, 976562, 1000000000, 999999488}, {11, 976563, 1000000000, 1000000000},
		{1, 1000000, 1000000, 1000000}, {1, 1000000, 999999, 999999}, {30, 1000000, 1, 1},
	} {
		expectCall(t, impl.BackoffOf, in(c[0], c[1], c[2]), c[3])
	}
	for _, tries := range []int{math.MinInt, -1, 0, 31, 64, math.MaxInt} {
		expectCall(t, impl.BackoffOf, in(tries, 10, 60), 0)
	}
	for _, base := range []int{math.MinInt, -1, 1000001, math.MaxInt} {
		expectCall(t, impl.BackoffOf, in(1, base, 60), 0)
		expectCall(t, impl.BackoffOf, in(4, base, 1000000000), 0)
	}
	for _, most := range []int{math.MinInt, -1, 1000000001, math.MaxInt} {
		expectCall(t, impl.BackoffOf, in(1, 10, most), 0)
		expectCall(t, impl.BackoffOf, in(30, 1000000, most), 0)
	}
	for _, tries := range edgesOf(1, 30) {
		for _, base := range append(edgesOf(0, 1000000), 2, 7, 1000) {
			for _, most := range append(edgesOf(0, 1000000000), 2, 7, 1000, 2000) {
				expectCall(t, impl.BackoffOf, in(tries, base, most), modelBackoffOf(tries, base, most))
			}
		}
	}
}

func TestGivesUp(t *testing.T) {
	hundred := slices.Repeat([]int{5}, 100)
	apart := make([]int, 100)
	for k := range apart {
		apart[k] = 10 * k
	}
	late := append(apart[:99:99], 990-1)
	for name, c := range map[string]struct {
		faults []int
		most   int
		within int
		place  int
	}{
		"no ticks":                      {nil, 0, 5, -1},
		"the empty list":                {[]int{}, 10, 1000, -1},
		"most 0, the first":             {[]int{7}, 0, 1, 0},
		"most 0, the first of many":     {hundred, 0, 1000, 0},
		"most 1, one":                   {[]int{7}, 1, 5, -1},
		"most 1, two alike":             {[]int{7, 7}, 1, 1, 1},
		"most 1, just apart":            {[]int{7, 12}, 1, 5, -1},
		"most 1, just near":             {[]int{7, 11}, 1, 5, 1},
		"most 1, one below":             {[]int{7, 13}, 1, 5, -1},
		"one in the midst":              {[]int{0, 10, 11, 30, 31}, 1, 5, 2},
		"the last":                      {[]int{1, 9, 10}, 1, 5, 2},
		"none":                          {[]int{1, 9, 17, 25}, 1, 5, -1},
		"none of three":                 {[]int{1, 2, 9, 10, 17, 18}, 2, 5, -1},
		"a third, in the midst":         {[]int{1, 2, 6, 9, 10, 17}, 2, 5, 4},
		"a third, the second goes":      {[]int{1, 2, 6, 10}, 2, 5, -1},
		"most 10, ten":                  {slices.Repeat([]int{5}, 10), 10, 1, -1},
		"most 10, eleven":               {slices.Repeat([]int{5}, 11), 10, 1, 10},
		"most 10, eleven, just near":    {countUp(0, 11), 10, 11, 10},
		"most 10, eleven, just apart":   {countUp(0, 11), 10, 10, -1},
		"most 10, 100 just apart":       {countUp(0, 100), 10, 10, -1},
		"100 alike, most 10":            {hundred, 10, 1, 10},
		"100, none":                     {apart, 1, 10, -1},
		"100, the second":               {apart, 1, 11, 1},
		"100, Within 1000":              {apart, 10, 1000, 10},
		"100, the last":                 {late, 1, 10, 99},
		"within 1000, just near":        {[]int{0, 999}, 1, 1000, 1},
		"within 1000, just apart":       {[]int{0, 1000}, 1, 1000, -1},
		"within reaches below 0":        {[]int{0, 3}, 1, 1000, 1},
		"at 0":                          {[]int{0, 0, 0}, 2, 1, 2},
		"at 1000000":                    {[]int{1000000, 1000000}, 1, 1, 1},
		"from 0 to 1000000":             {[]int{0, 1000000}, 1, 1000, -1},
		"those behind it do not count":  {[]int{1, 20, 20, 20}, 2, 5, 3},
		"those of its own tick do":      {[]int{20, 20, 20, 40}, 2, 5, 2},
		"the first of two that do":      {[]int{1, 2, 30, 31}, 1, 5, 1},
		"equal to within, three a tick": {[]int{1, 1, 1, 6, 6, 6, 11, 11, 11}, 3, 5, -1},
	} {
		t.Run(name, func(t *testing.T) { expectCall(t, impl.GivesUp, in(c.faults, c.most, c.within), c.place, true) })
	}
}

func TestGivesUpIsRefused(t *testing.T) {
	for name, faults := range map[string][]int{
		"101 ticks":                 slices.Repeat([]int{5}, 101),
		"far too many":              countUp(0, 3000),
		"-1":                        {-1},
		"-1 ahead of others":        {-1, 5, 5, 5},
		"1000001":                   {1000001},
		"1000001 behind others":     {5, 5, 5, 1000001},
		"the least":                 {math.MinInt},
		"the greatest":              {math.MaxInt},
		"falling by one":            {8, 7},
		"falling far":               {1000000, 0},
		"falling behind where it's": {5, 5, 5, 5, 4},
		"falling at the end of 100": append(countUp(100, 99), 99),
	} {
		t.Run(name, func(t *testing.T) {
			for _, most := range []int{-1, 0, 1, 10, 11} {
				for _, within := range []int{0, 1, 1000, 1001} {
					expectCall(t, impl.GivesUp, in(faults, most, within), 0, false)
				}
			}
		})
	}
	for _, faults := range [][]int{nil, {7}, {7, 7, 7}, countUp(0, 100)} {
		for _, most := range []int{math.MinInt, -1, 11, math.MaxInt} {
			expectCall(t, impl.GivesUp, in(faults, most, 5), 0, false)
		}
		for _, within := range []int{math.MinInt, -1, 0, 1001, math.MaxInt} {
			expectCall(t, impl.GivesUp, in(faults, 1, within), 0, false)
		}
	}
}

func TestEmptyListsInKeepers(t *testing.T) {
	for _, empty := range [][]int{nil, {}, make([]int, 0, 5)} {
		k := oneKeeper(0, 5, "+-")
		k.Faults = empty
		gone, _, _ := impl.FailChild(k, 0, 7)
		same, told, none := impl.FailChild(k, 1, 7)
		l := keepers(k, under(0, 1, over(k)))
		all, _, _ := impl.FailIn(l, 0, 0, 7)
		still, silent, code := impl.FailIn(l, 1, 0, 7)
		order, ok := impl.StopOrder(keepers(over(k)))
		if none != impl.KeepNone || code != impl.KeepNone || !ok || told != nil || silent != nil || order != nil {
			t.Errorf("%d %d %v %#v %#v %#v", none, code, ok, told, silent, order)
		}
		for _, each := range slices.Concat(keepers(gone, same), all, still) {
			if each.Faults != nil {
				t.Errorf("%#v", each)
			}
		}
	}
	bad, told, _ := impl.FailIn(nil, 0, 0, 7)
	order, _ := impl.StopOrder(nil)
	if bad != nil || told != nil || order != nil {
		t.Errorf("%#v %#v %#v", bad, told, order)
	}
}

// Lists may lie behind one another in one memory: what is put behind one of them must not run into the next.
func TestKeepersInOneMemory(t *testing.T) {
	ticks, runs := countUp(1, 6), runsOf("++++++")
	all := keepers(
		impl.Keeper{Kind: 1, MaxR: 3, Within: 9, Up: -1, Runs: runs[:2], Faults: ticks[:2]},
		impl.Keeper{Kind: 1, MaxR: 2, Within: 9, Up: 0, Child: 1, Runs: runs[2:4], Faults: ticks[2:4]},
		impl.Keeper{Kind: 2, MaxR: 3, Within: 9, Up: 1, Child: 0, Runs: runs[4:5], Faults: ticks[4:5]},
		impl.Keeper{Kind: 1, MaxR: 3, Within: 9, Runs: runs[5:], Faults: ticks[5:]},
	)
	l := all[:3]
	alone, _, _ := impl.FailChild(l[0], 0, 7)
	first, _, _ := impl.FailIn(l, 0, 0, 7)
	second, _, _ := impl.FailIn(l, 1, 1, 7)
	same, _, _ := impl.FailIn(l, 2, 1, 7)
	if !slices.Equal(ticks, countUp(1, 6)) || slices.Contains(runs, false) || all[3].Up != 0 {
		t.Error("written into:", ticks, runs, all)
	}
	one, two, three := oneKeeper(3, 9, "++", 1, 2), under(0, 1, oneKeeper(2, 9, "++", 3, 4)), under(1, 0, restKeeper(3, 9, "+", 5))
	for _, c := range []struct{ got, want []impl.Keeper }{
		{keepers(alone), keepers(withFaults(one, 1, 2, 7))},
		{first, keepers(withFaults(one, 1, 2, 7), two, three)},
		{second, keepers(withFaults(one, 1, 2, 7), anew(two), anew(three))},
		{same, keepers(one, two, three)},
	} {
		if !sameValues([]any{c.got}, []any{c.want}) {
			t.Errorf("%+v, not %+v", c.got, c.want)
		}
	}
}

// One list may be handed in as two: each of the answer is on its own.
func TestOneListForTwoKeepers(t *testing.T) {
	runs, faults := runsOf("++"), []int{3, 4}
	first := impl.Keeper{Kind: 1, MaxR: 5, Within: 9, Up: -1, Runs: runs, Faults: faults}
	l := keepers(first, under(0, 1, first), under(1, 0, first))
	changedOne, _, _ := impl.FailIn(l, 1, 1, 7)
	same, _, _ := impl.FailIn(l, 2, 2, 7)
	for _, next := range [][]impl.Keeper{changedOne, same} {
		next[1].Runs[1], next[1].Faults[0] = false, 99
		for _, k := range keepers(next[0], next[2], first) {
			if !k.Runs[1] || k.Faults[0] != 3 {
				t.Errorf("memory is shared: %+v, %v, %v", next, runs, faults)
			}
		}
	}
}

func expectKeeperModel(t *testing.T, k impl.Keeper, children, ticks []int, codes map[int]int) {
	t.Helper()
	expectCall(t, impl.GoodKeeper, in(k), modelGoodKeeper(k))
	for _, child := range children {
		for _, tick := range ticks {
			next, told, code := modelFailChild(k, child, tick)
			expectCall(t, impl.FailChild, in(k, child, tick), next, told, code)
			codes[code]++
		}
	}
}

func expectKeepersModel(t *testing.T, l []impl.Keeper, numbers, children, ticks []int, codes map[int]int) {
	t.Helper()
	expectCall(t, impl.GoodKeepers, in(l), modelGoodKeepers(l))
	order, ok := modelStopOrder(l)
	expectCall(t, impl.StopOrder, in(l), order, ok)
	for _, keeper := range numbers {
		for _, child := range children {
			for _, tick := range ticks {
				next, told, code := modelFailIn(l, keeper, child, tick)
				expectCall(t, impl.FailIn, in(l, keeper, child, tick), next, told, code)
				codes[code]++
			}
		}
	}
}

func TestTheKeeperTablesAgainstTheModel(t *testing.T) {
	codes := map[int]int{}
	all := goodKeepers()
	maps.Copy(all, badKeepers())
	for name, k := range all {
		t.Run(name, func(t *testing.T) {
			expectKeeperModel(t, k, []int{-1, 0, 1, 9, 10}, []int{-1, 0, 7, 16, 1000000, 1000001}, codes)
		})
	}
	expectMet(t, codes, 50, impl.KeepOk, impl.KeepBad, impl.KeepNone, impl.KeepBack)
	clear(codes)
	for name, l := range goodKeeperLists() {
		t.Run(name, func(t *testing.T) {
			expectKeepersModel(t, l, []int{-1, 0, 1, 2, 7, 8}, []int{-1, 0, 1, 2, 9}, []int{-1, 3, 5, 14}, codes)
		})
	}
	for name, l := range badKeeperLists() {
		t.Run(name, func(t *testing.T) { expectKeepersModel(t, l, []int{0, 1}, []int{0}, []int{7}, codes) })
	}
	expectMet(t, codes, 50, impl.KeepOk, impl.KeepBad, impl.KeepNone, impl.KeepBack)
}

func TestAllSmallKeepers(t *testing.T) {
	met, codes := 0, map[int]int{}
	for _, runs := range listsOf([]bool{false, true}, 3) {
		for _, faults := range listsOf([]int{-1, 0, 3, 4}, 3) {
			for maxR := range 4 {
				for kind := range 4 {
					for _, isOver := range []bool{false, true} {
						k := impl.Keeper{Kind: kind, MaxR: maxR, Within: 3, Runs: runs, Faults: faults, Over: isOver}
						if got := impl.GoodKeeper(k); got != modelGoodKeeper(k) {
							t.Fatalf("GoodKeeper of %+v: %v", k, got)
						}
						if modelGoodKeeper(k) {
							met++
							expectKeeperModel(t, k, []int{0, 1, 3}, []int{3, 4, 6}, codes)
						}
					}
				}
			}
		}
	}
	// 14 Runs with not falling Faults of three ticks: 1 of MaxR 0, 4 of 1, 10 of 2, 20 of 3; 3 are none that run, Over with each MaxR.
	if want := 2 * (14*(1+4+10+20) + 3*4); met != want {
		t.Errorf("not all good keepers were met: %d of %d", met, want)
	}
	expectMet(t, codes, 100, impl.KeepOk, impl.KeepNone, impl.KeepBack)
}

// smallKeepers are of two children, or of one.
func smallKeepers() []impl.Keeper {
	return keepers(
		oneKeeper(0, 3, "++"), restKeeper(0, 3, "++"), oneKeeper(1, 3, "++", 4), restKeeper(1, 3, "++"), restKeeper(1, 3, "++", 9),
		oneKeeper(1, 3, "-+"), restKeeper(2, 3, "+-", 4, 4), oneKeeper(1, 3, "+", 6), oneKeeper(0, 3, "--"), over(oneKeeper(2, 3, "++")),
	)
}

func TestAllSmallLists(t *testing.T) {
	met, codes := 0, map[int]int{}
	for _, l := range listsOf(smallKeepers(), 3) {
		if len(l) < 2 {
			continue
		}
		for _, ups := range listsOf([][2]int{{0, 0}, {0, 1}, {1, 0}, {1, 1}, {-1, 0}, {2, 0}, {0, 2}}, 2) {
			if len(ups) != len(l)-1 {
				continue
			}
			stands := slices.Clone(l)
			for k, up := range ups {
				stands[k+1] = under(up[0], up[1], l[k+1])
			}
			good := modelGoodKeepers(stands)
			if got := impl.GoodKeepers(stands); got != good {
				t.Fatalf("GoodKeepers of %+v: %v", stands, got)
			}
			if met++; good && met%3 == 0 {
				expectKeepersModel(t, stands, countUp(0, len(l)), []int{0, 1, 2}, []int{6}, codes)
			}
		}
	}
	if want := 10*10*7 + 10*10*10*7*7; met != want {
		t.Errorf("%d of %d", met, want)
	}
	expectMet(t, codes, 100, impl.KeepOk, impl.KeepBad, impl.KeepNone, impl.KeepBack)
}

func TestAllSmallBackoffsAndTicks(t *testing.T) {
	places := map[int]int{}
	for _, faults := range listsOf([]int{0, 2, 3, 5, 6}, 5) {
		for most := range 4 {
			for within := range 5 {
				place, ok := modelGivesUp(faults, most, within)
				if got, yes := impl.GivesUp(faults, most, within); got != place || yes != ok {
					t.Fatalf("GivesUp of %v, %d, %d: %d, %v", faults, most, within, got, yes)
				}
				if ok {
					places[place]++
				}
			}
		}
	}
	expectMet(t, places, 20, -1, 0, 1, 2, 3)
	for tries := range 33 {
		for base := range 20 {
			for most := range 200 {
				if got, want := impl.BackoffOf(tries, base, most), modelBackoffOf(tries, base, most); got != want {
					t.Fatalf("BackoffOf %d, %d, %d: %d, not %d", tries, base, most, got, want)
				}
			}
		}
	}
}
