package tests

import (
	"math"
	"slices"
	"testing"

	"loop.example/g00145/impl"
)

// live, cancelled and expired make scopes short enough to be read in a row.
func live(up, deadline int) impl.Scope { return impl.Scope{Up: up, Deadline: deadline} }

func cancelled(up, deadline int) impl.Scope {
	return impl.Scope{Up: up, Deadline: deadline, Why: impl.WhyCancelled}
}

func expired(up, deadline int) impl.Scope {
	return impl.Scope{Up: up, Deadline: deadline, Why: impl.WhyDeadline}
}

func scopes(l ...impl.Scope) []impl.Scope { return l }

// chainOf are scopes each below the one ahead, starOf all below the first.
func chainOf(many int) []impl.Scope {
	var l []impl.Scope
	for k := range many {
		l = append(l, live(k-1, 100-k))
	}
	return l
}

func starOf(many int) []impl.Scope {
	l := chainOf(many)
	for k := range l {
		l[k].Up = min(k-1, 0)
	}
	return l
}

// endingAll are the scopes with all of those ended for that reason.
func endingAll(l []impl.Scope, why int, numbers ...int) []impl.Scope {
	next := slices.Clone(l)
	for _, k := range numbers {
		next[k].Why = why
	}
	return next
}

func goodScopeLists() map[string][]impl.Scope {
	return map[string][]impl.Scope{
		"none":                         nil,
		"an empty list":                {},
		"one":                          scopes(live(-1, 5)),
		"one, Deadline 0":              scopes(live(-1, 0)),
		"one, Deadline Forever":        scopes(live(-1, impl.Forever)),
		"one that is cancelled":        scopes(cancelled(-1, 5)),
		"one that is expired":          scopes(expired(-1, 5)),
		"one below":                    scopes(live(-1, 5), live(0, 9)),
		"one below that has ended":     scopes(live(-1, 5), cancelled(0, 9), live(0, 9)),
		"ended for other reasons":      scopes(cancelled(-1, 5), expired(0, 9), cancelled(1, 1), expired(2, 0)),
		"ended where the first is not": scopes(live(-1, 5), expired(0, 9), live(0, 9), cancelled(1, 3), live(2, 0)),
		"one less than MaxScopes":      chainOf(19),
		"MaxScopes below one another":  chainOf(20),
		"MaxScopes below the first":    starOf(20),
		"MaxScopes, all ended":         endingAll(chainOf(20), impl.WhyDeadline, countUp(0, 20)...),
		"MaxScopes, the lower ended":   endingAll(chainOf(20), impl.WhyCancelled, countUp(10, 10)...),
		"MaxScopes, the last ended":    endingAll(starOf(20), impl.WhyCancelled, 19),
	}
}

func badScopeLists() map[string][]impl.Scope {
	withUp := func(l []impl.Scope, k, up int) []impl.Scope {
		l[k].Up = up
		return l
	}
	return map[string][]impl.Scope{
		"one more than MaxScopes":             chainOf(21),
		"one more, below the first":           starOf(21),
		"far too many":                        starOf(3000),
		"the first below itself":              scopes(live(0, 5)),
		"the first's Up below -1":             scopes(live(-2, 5)),
		"the first below the second":          scopes(live(1, 5), live(0, 5)),
		"the first's Up the least int":        scopes(live(math.MinInt, 5)),
		"the first's Up the greatest int":     scopes(live(math.MaxInt, 5)),
		"two without Up":                      scopes(live(-1, 5), live(-1, 5)),
		"the last without Up":                 withUp(chainOf(20), 19, -1),
		"below itself":                        scopes(live(-1, 5), live(1, 5)),
		"below one behind":                    scopes(live(-1, 5), live(2, 5), live(0, 5)),
		"below none":                          scopes(live(-1, 5), live(2, 5)),
		"the last below itself":               withUp(chainOf(20), 19, 19),
		"the last below one beyond":           withUp(chainOf(20), 19, 20),
		"one in the midst below the next":     withUp(chainOf(20), 9, 10),
		"Up below -1":                         scopes(live(-1, 5), live(-2, 5)),
		"Up the least int":                    scopes(live(-1, 5), live(math.MinInt, 5)),
		"Up the greatest int":                 scopes(live(-1, 5), live(math.MaxInt, 5)),
		"Deadline below 0":                    scopes(live(-1, -1)),
		"Deadline the least int":              scopes(live(-1, math.MinInt)),
		"Deadline below 0 of the last":        scopes(live(-1, 5), live(0, 5), live(0, -1)),
		"Deadline below 0 of one ended":       scopes(live(-1, 5), cancelled(0, -1)),
		"Why below the three":                 scopes(impl.Scope{Up: -1, Why: -1}),
		"Why above the three":                 scopes(impl.Scope{Up: -1, Why: 3}),
		"Why the least int":                   scopes(impl.Scope{Up: -1, Why: math.MinInt}),
		"Why the greatest int":                scopes(impl.Scope{Up: -1, Why: math.MaxInt}),
		"Why above the three of the last":     scopes(live(-1, 5), live(0, 5), impl.Scope{Up: 1, Why: 3}),
		"one goes on below one cancelled":     scopes(cancelled(-1, 5), live(0, 9)),
		"one goes on below one expired":       scopes(live(-1, 5), expired(0, 5), live(1, 9)),
		"the last goes on":                    endingAll(starOf(20), impl.WhyDeadline, countUp(0, 19)...),
		"the last goes on, below one another": endingAll(chainOf(20), impl.WhyCancelled, countUp(0, 19)...),
		"two go on between those that ended":  scopes(cancelled(-1, 5), live(0, 9), live(1, 9), expired(2, 9)),
	}
}

func TestGoodScopes(t *testing.T) {
	for name, l := range goodScopeLists() {
		t.Run(name, func(t *testing.T) { expectCall(t, impl.GoodScopes, in(l), true) })
	}
	for name, l := range badScopeLists() {
		t.Run(name, func(t *testing.T) { expectCall(t, impl.GoodScopes, in(l), false) })
	}
}

func TestBadScopesAreRefused(t *testing.T) {
	for name, l := range badScopeLists() {
		t.Run(name, func(t *testing.T) {
			for _, k := range []int{math.MinInt, -2, -1, 0, 1, 2, 19, 20, 21, math.MaxInt} {
				expectCall(t, impl.NewScope, in(l, k, 5), scopes(), 0, impl.SyncBad)
				expectCall(t, impl.NewScope, in(l, k, -1), scopes(), 0, impl.SyncBad)
				expectCall(t, impl.CancelScope, in(l, k), scopes(), []int{}, impl.SyncBad)
				expectCall(t, impl.ExpireScopes, in(l, k), scopes(), []int{}, false)
			}
		})
	}
}

func TestNewScope(t *testing.T) {
	mixed := scopes(live(-1, 5), cancelled(0, 9), expired(0, 9), live(0, 9))
	with := func(l []impl.Scope, s impl.Scope) []impl.Scope { return slices.Concat(l, scopes(s)) }
	for name, c := range map[string]struct {
		l            []impl.Scope
		up, deadline int
		next         []impl.Scope
		number, code int
	}{
		"the first":                         {nil, -1, 9, scopes(live(-1, 9)), 0, impl.SyncDone},
		"the first, Deadline 0":             {nil, -1, 0, scopes(live(-1, 0)), 0, impl.SyncDone},
		"the first, Deadline Forever":       {nil, -1, impl.Forever, scopes(live(-1, impl.Forever)), 0, impl.SyncDone},
		"the first below 0":                 {nil, 0, 9, nil, 0, impl.SyncBad},
		"the first, Up below -1":            {nil, -2, 9, nil, 0, impl.SyncBad},
		"the first, Deadline below 0":       {nil, -1, -1, nil, 0, impl.SyncBad},
		"the first, Deadline least":         {nil, -1, math.MinInt, nil, 0, impl.SyncBad},
		"the second":                        {scopes(live(-1, 5)), 0, 9, scopes(live(-1, 5), live(0, 9)), 1, impl.SyncDone},
		"the second, earlier":               {scopes(live(-1, 5)), 0, 0, scopes(live(-1, 5), live(0, 0)), 1, impl.SyncDone},
		"a second without Up":               {scopes(live(-1, 5)), -1, 9, nil, 0, impl.SyncBad},
		"below one that is not there":       {scopes(live(-1, 5)), 1, 9, nil, 0, impl.SyncBad},
		"Up the least int":                  {scopes(live(-1, 5)), math.MinInt, 9, nil, 0, impl.SyncBad},
		"Up the greatest int":               {scopes(live(-1, 5)), math.MaxInt, 9, nil, 0, impl.SyncBad},
		"Deadline below 0":                  {scopes(live(-1, 5)), 0, -1, nil, 0, impl.SyncBad},
		"Deadline the least int":            {scopes(live(-1, 5)), 0, math.MinInt, nil, 0, impl.SyncBad},
		"below one that goes on":            {mixed, 0, 1, with(mixed, live(0, 1)), 4, impl.SyncDone},
		"below the last":                    {mixed, 3, 1, with(mixed, live(3, 1)), 4, impl.SyncDone},
		"below one cancelled":               {mixed, 1, 99, with(mixed, cancelled(1, 99)), 4, impl.SyncDone},
		"below one expired":                 {mixed, 2, impl.Forever, with(mixed, expired(2, impl.Forever)), 4, impl.SyncDone},
		"below the first that is cancelled": {scopes(cancelled(-1, 5)), 0, 9, scopes(cancelled(-1, 5), cancelled(0, 9)), 1, impl.SyncDone},
		"up to MaxScopes":                   {chainOf(19), 18, 81, chainOf(20), 19, impl.SyncDone},
		"up to MaxScopes, below the first":  {starOf(19), 0, 81, starOf(20), 19, impl.SyncDone},
		"beyond MaxScopes":                  {chainOf(20), 19, 80, nil, 0, impl.SyncBad},
		"beyond MaxScopes, below the first": {starOf(20), 0, 80, nil, 0, impl.SyncBad},
	} {
		t.Run(name, func(t *testing.T) {
			expectCall(t, impl.NewScope, in(c.l, c.up, c.deadline), c.next, c.number, c.code)
		})
	}
}

// family: 1 and 2 are below 0, 3 and 4 below 1, 5 below 2, 6 below 4, 7 below 3.
func family() []impl.Scope {
	return scopes(live(-1, 50), live(0, 40), live(0, 60), live(1, 70), live(1, 30), live(2, 20), live(4, 90), live(3, 10))
}

func TestCancelScope(t *testing.T) {
	part := endingAll(family(), impl.WhyDeadline, 4, 6)
	for name, c := range map[string]struct {
		l    []impl.Scope
		k    int
		next []impl.Scope
		ends []int
		code int
	}{
		"the only one":                  {scopes(live(-1, 5)), 0, scopes(cancelled(-1, 5)), []int{0}, impl.SyncDone},
		"the first ends all":            {family(), 0, endingAll(family(), impl.WhyCancelled, countUp(0, 8)...), countUp(0, 8), impl.SyncDone},
		"one in the midst":              {family(), 1, endingAll(family(), impl.WhyCancelled, 1, 3, 4, 6, 7), []int{1, 3, 4, 6, 7}, impl.SyncDone},
		"another one in the midst":      {family(), 2, endingAll(family(), impl.WhyCancelled, 2, 5), []int{2, 5}, impl.SyncDone},
		"one with one below":            {family(), 4, endingAll(family(), impl.WhyCancelled, 4, 6), []int{4, 6}, impl.SyncDone},
		"one with none below":           {family(), 5, endingAll(family(), impl.WhyCancelled, 5), []int{5}, impl.SyncDone},
		"the last one":                  {family(), 7, endingAll(family(), impl.WhyCancelled, 7), []int{7}, impl.SyncDone},
		"some below have ended":         {part, 1, endingAll(part, impl.WhyCancelled, 1, 3, 7), []int{1, 3, 7}, impl.SyncDone},
		"all, some have ended":          {part, 0, endingAll(part, impl.WhyCancelled, 0, 1, 2, 3, 5, 7), []int{0, 1, 2, 3, 5, 7}, impl.SyncDone},
		"one that is expired":           {part, 4, part, nil, impl.SyncBusy},
		"one below one that is expired": {part, 6, part, nil, impl.SyncBusy},
		"one that is cancelled":         {scopes(cancelled(-1, 5)), 0, scopes(cancelled(-1, 5)), nil, impl.SyncBusy},
		"no scopes":                     {nil, 0, nil, nil, impl.SyncBad},
		"no scopes, -1":                 {nil, -1, nil, nil, impl.SyncBad},
		"just ahead of the first":       {family(), -1, nil, nil, impl.SyncBad},
		"just behind the last":          {family(), 8, nil, nil, impl.SyncBad},
		"the least int":                 {family(), math.MinInt, nil, nil, impl.SyncBad},
		"the greatest int":              {family(), math.MaxInt, nil, nil, impl.SyncBad},
		"MaxScopes below one another":   {chainOf(20), 7, endingAll(chainOf(20), impl.WhyCancelled, countUp(7, 13)...), countUp(7, 13), impl.SyncDone},
		"all of MaxScopes":              {starOf(20), 0, endingAll(starOf(20), impl.WhyCancelled, countUp(0, 20)...), countUp(0, 20), impl.SyncDone},
		"the last of MaxScopes":         {starOf(20), 19, endingAll(starOf(20), impl.WhyCancelled, 19), []int{19}, impl.SyncDone},
	} {
		t.Run(name, func(t *testing.T) { expectCall(t, impl.CancelScope, in(c.l, c.k), c.next, c.ends, c.code) })
	}
}

func TestExpireScopes(t *testing.T) {
	part := endingAll(family(), impl.WhyCancelled, 1, 3, 4, 6, 7)
	for name, c := range map[string]struct {
		l    []impl.Scope
		now  int
		ends []int
	}{
		"no scopes":                      {nil, 5, nil},
		"no scopes, an empty list":       {scopes(), 5, nil},
		"just ahead of a Deadline":       {scopes(live(-1, 5)), 4, nil},
		"at a Deadline":                  {scopes(live(-1, 5)), 5, []int{0}},
		"behind a Deadline":              {scopes(live(-1, 5)), 6, []int{0}},
		"Deadline 0, ahead of it":        {scopes(live(-1, 0)), -1, nil},
		"Deadline 0, at it":              {scopes(live(-1, 0)), 0, []int{0}},
		"the least now":                  {scopes(live(-1, 0)), math.MinInt, nil},
		"Forever, just ahead":            {scopes(live(-1, impl.Forever)), impl.Forever - 1, nil},
		"Forever, at it":                 {scopes(live(-1, impl.Forever)), impl.Forever, []int{0}},
		"none is due":                    {family(), 9, nil},
		"one with none below":            {family(), 10, []int{7}},
		"just ahead of the next":         {family(), 19, []int{7}},
		"two":                            {family(), 20, []int{5, 7}},
		"one below one that is due":      {family(), 30, []int{4, 5, 6, 7}},
		"all below one that is due":      {family(), 40, []int{1, 3, 4, 5, 6, 7}},
		"just ahead of the first":        {family(), 49, []int{1, 3, 4, 5, 6, 7}},
		"the first ends all":             {family(), 50, countUp(0, 8)},
		"behind all":                     {family(), math.MaxInt, countUp(0, 8)},
		"what has ended does not again":  {part, 20, []int{5}},
		"it is due but has ended":        {part, 30, []int{5}},
		"the first, some have ended":     {part, 50, []int{0, 2, 5}},
		"all have ended":                 {endingAll(family(), impl.WhyCancelled, countUp(0, 8)...), 99, nil},
		"all have expired":               {endingAll(family(), impl.WhyDeadline, countUp(0, 8)...), 99, nil},
		"MaxScopes, none":                {chainOf(20), 80, nil},
		"MaxScopes, the last":            {chainOf(20), 81, []int{19}},
		"MaxScopes, the last ten":        {chainOf(20), 90, countUp(10, 10)},
		"MaxScopes, all but the first":   {starOf(20), 99, countUp(1, 19)},
		"MaxScopes, the first":           {starOf(20), 100, countUp(0, 20)},
		"due in the midst, later below":  {scopes(live(-1, 9), live(0, 3), live(1, 8), live(2, 9)), 3, []int{1, 2, 3}},
		"due below one that has not":     {scopes(live(-1, 9), live(0, 8), live(1, 3), live(0, 3)), 3, []int{2, 3}},
		"below one that ended, due late": {scopes(live(-1, 9), expired(0, 8), cancelled(1, 3)), 8, nil},
	} {
		t.Run(name, func(t *testing.T) {
			expectCall(t, impl.ExpireScopes, in(c.l, c.now), endingAll(c.l, impl.WhyDeadline, c.ends...), c.ends, true)
		})
	}
}

func TestEmptyListsOfScopes(t *testing.T) {
	for _, none := range [][]impl.Scope{nil, {}, make([]impl.Scope, 0, 5)} {
		next, ends, ok := impl.ExpireScopes(none, 5)
		if next != nil || ends != nil || !ok {
			t.Errorf("%#v %#v %v", next, ends, ok)
		}
	}
}

func expectScopeModel(t *testing.T, l []impl.Scope, ups, deadlines []int, codes map[int]int) {
	t.Helper()
	expectCall(t, impl.GoodScopes, in(l), modelGoodScopes(l))
	for _, k := range ups {
		next, ends, code := modelCancelScope(l, k)
		expectCall(t, impl.CancelScope, in(l, k), next, ends, code)
		codes[code]++
		for _, deadline := range deadlines {
			next, number, code := modelNewScope(l, k, deadline)
			expectCall(t, impl.NewScope, in(l, k, deadline), next, number, code)
			codes[code]++
		}
	}
	for _, now := range deadlines {
		next, ends, ok := modelExpireScopes(l, now)
		expectCall(t, impl.ExpireScopes, in(l, now), next, ends, ok)
	}
}

func TestAllSmallScopes(t *testing.T) {
	var kinds []impl.Scope
	for up := -2; up <= 2; up++ {
		for _, deadline := range []int{-1, 0, 5} {
			for why := -1; why <= 3; why++ {
				kinds = append(kinds, impl.Scope{Up: up, Deadline: deadline, Why: why})
			}
		}
	}
	met, codes := 0, map[int]int{}
	for k, l := range listsOf(kinds, 3) {
		if got := impl.GoodScopes(l); got != modelGoodScopes(l) {
			t.Fatalf("GoodScopes of %+v: %v", l, got)
		}
		if modelGoodScopes(l) {
			met++
			expectScopeModel(t, l, []int{-1, k % 3, 3}, []int{0, []int{-1, 4, 5}[k%3]}, codes)
		}
	}
	// One without scopes, 6 of one scope, 28 of two; of three 136 with the third below the first and 120 below the second.
	if met != 291 {
		t.Error("not all good scopes were met:", met)
	}
	expectMet(t, codes, 10, impl.SyncDone, impl.SyncBad, impl.SyncBusy)
}

// TestAllFamiliesOfFive goes through all ways in which five stand below one another, with some of them ended or due.
func TestAllFamiliesOfFive(t *testing.T) {
	met := 0
	for shape := range 1 * 2 * 3 * 4 {
		for ended := range 1 << 5 {
			for due := range 1 << 5 {
				l := scopes(live(-1, 1), live(0, 1), live(shape%2, 1), live(shape/2%3, 1), live(shape/6, 1))
				for k := range l {
					l[k].Why = ended >> k & 1
					l[k].Deadline = due >> k & 1
				}
				if !modelGoodScopes(l) {
					continue
				}
				met++
				expectFamily(t, l)
			}
		}
	}
	if met < 5000 {
		t.Error("not all families were met:", met)
	}
}

// expectFamily is for many calls: their memory is not guarded.
func expectFamily(t *testing.T, l []impl.Scope) {
	t.Helper()
	next, ends, ok := impl.ExpireScopes(l, 0)
	if wants, told, _ := modelExpireScopes(l, 0); !ok || !slices.Equal(next, wants) || !slices.Equal(ends, told) {
		t.Fatalf("ExpireScopes of %+v: %+v, %v", l, next, ends)
	}
	for k := range l {
		next, ends, code := impl.CancelScope(l, k)
		if wants, told, wanted := modelCancelScope(l, k); code != wanted || !slices.Equal(next, wants) || !slices.Equal(ends, told) {
			t.Fatalf("CancelScope of %+v, %d: %+v, %v, %d", l, k, next, ends, code)
		}
	}
}

// anyGoodScopes are such as calls make: some are cancelled, some expired, some begun below one that has ended.
func (r *turns) anyGoodScopes() []impl.Scope {
	many := []int{1, r.next(6), r.next(21), 20}[r.next(4)]
	var l []impl.Scope
	for k := range many {
		up := []int{k - 1, max(k-1-r.next(3), min(k-1, 0)), r.next(max(k, 1)), 0}[r.next(4)]
		if k == 0 {
			up = -1
		}
		s := impl.Scope{Up: up, Deadline: []int{r.next(100), r.next(100), 0, impl.Forever}[r.next(4)]}
		if r.next(6) == 0 {
			s.Why = 1 + r.next(2)
		}
		if up >= 0 && l[up].Why != impl.WhyNone {
			s.Why = 1 + r.next(2)
		}
		l = append(l, s)
	}
	return l
}

func TestManyGoodScopes(t *testing.T) {
	r, codes, below := turns(5), map[int]int{}, 0
	for range 1000 {
		l := r.anyGoodScopes()
		if !impl.GoodScopes(l) {
			t.Fatalf("%+v are not good", l)
		}
		expectScopeModel(t, l, []int{r.next(22) - 1, 0, r.next(1 + len(l))}, []int{r.next(100), r.next(40)}, codes)
		if _, ends, _ := impl.CancelScope(l, r.next(4)); len(ends) > 2 {
			below++
		}
	}
	expectMet(t, codes, 100, impl.SyncDone, impl.SyncBad, impl.SyncBusy)
	if below < 100 {
		t.Error("scopes with others below them were met too seldom:", below)
	}
}

// Promise 14: scopes of any numbers.
func TestAnyScopesAreAnswered(t *testing.T) {
	r, codes := turns(55514), map[int]int{}
	for range 1000 {
		l := r.anyGoodScopes()
		for range r.next(3) {
			l = append(l, impl.Scope{Up: r.anyInt() - 1, Deadline: r.anyInt(), Why: r.next(4)})
		}
		if len(l) > 0 && r.next(2) == 0 {
			l[r.next(len(l))] = impl.Scope{Up: r.anyInt() - 1, Deadline: r.wideInt(), Why: r.anyInt()}
		}
		expectScopeModel(t, l, []int{r.anyInt(), r.wideInt()}, []int{r.anyInt(), r.wideInt()}, codes)
	}
}
