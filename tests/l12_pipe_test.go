package tests

import (
	"fmt"
	"math"
	"slices"
	"strconv"
	"strings"
	"testing"

	"loop.example/g00145/impl"
)

// numbers reads those of a text, whatever stands between.
func numbers(text string) []int {
	var list []int
	for _, word := range strings.FieldsFunc(text, func(c rune) bool { return c != '-' && (c < '0' || c > '9') }) {
		n, err := strconv.Atoi(word)
		if err != nil {
			panic(err)
		}
		list = append(list, n)
	}
	return list
}

// moves reads words such as o0=4 (offer 4 at node 0), s0 (step), f0 (fault), t5 (tick), d (drain) and a (abort); *3 behind one is so many of it.
func moves(text string) []impl.Move {
	var list []impl.Move
	for _, word := range strings.Fields(text) {
		word, times, _ := strings.Cut(word, "*")
		m, n := impl.Move{Kind: 1 + strings.Index("osftda", word[:1])}, append(numbers(word[1:]), 0)
		switch m.Kind {
		case impl.MoveOffer:
			m.Node, m.Value = n[0], n[1]
		case impl.MoveTick:
			m.Value = n[0]
		default:
			m.Node = n[0]
		}
		list = append(list, slices.Repeat([]impl.Move{m}, append(numbers(times), 1)[0])...)
	}
	return list
}

// pipeText leaves out what is 0 or empty, but for the boxes: a token is Item:Value/Tries, what is out Item:Node:Value, what is lost has its Why behind.
func pipeText(p impl.Pipe) string {
	var words []string
	say := func(some bool, format string, args ...any) {
		if some {
			words = append(words, fmt.Sprintf(format, args...))
		}
	}
	say(p.Tick != 0, "tick %d", p.Tick)
	say(p.Items != 0, "items %d", p.Items)
	say(p.Closed, "closed")
	for _, box := range p.Boxes {
		var tokens []string
		for _, t := range box {
			tokens = append(tokens, strings.TrimSuffix(fmt.Sprintf("%d:%d/%d", t.Item, t.Value, t.Tries), "/0"))
		}
		say(true, "[%s]", strings.Join(tokens, " "))
	}
	say(len(p.Emitted) > 0, "out")
	for _, o := range p.Emitted {
		say(true, "%d:%d:%d", o.Item, o.Node, o.Value)
	}
	say(len(p.Failed) > 0, "lost")
	for _, l := range p.Failed {
		say(true, "%d:%d:%d:%d", l.Item, l.Node, l.Value, l.Why)
	}
	say(len(p.Faults) > 0, "faults")
	for _, tick := range p.Faults {
		say(true, "%d", tick)
	}
	return strings.Join(words, " ")
}

// capped is the graph with all Caps the same.
func capped(size int, g []impl.Node) []impl.Node {
	g = slices.Clone(g)
	for k := range g {
		g[k].Cap = size
	}
	return g
}

// staged is a shape with these stages.
func staged(text string, stages ...impl.Stage) []impl.Node {
	g := shape(text)
	for k, s := range stages {
		g[k].Stage = s
	}
	return g
}

var (
	same     = mapBy(1, 0)
	allFails = poisonBy(1, 0)
)

// expectPipeModel asks all functions of one graph and its moves, guarded, and holds them against the model.
func expectPipeModel(t *testing.T, g []impl.Node, list []impl.Move, items ...int) {
	t.Helper()
	p, codes, ok := modelPlayPipe(g, list)
	expectCall(t, impl.PlayPipe, in(g, list), p, codes, ok)
	out, steps, ok := modelRunOut(g, list)
	expectCall(t, impl.RunOut, in(g, list), out, steps, ok)
	offered, ok := modelOffered(g, list)
	expectCall(t, impl.OfferedIn, in(g, list), offered, ok)
	many, ok := modelLiveAfter(g, list)
	expectCall(t, impl.LiveAfter, in(g, list), many, ok)
	for _, item := range items {
		account, ok := modelAccountOf(g, list, item)
		expectCall(t, impl.AccountOf, in(g, list, item), account, ok)
	}
	for _, told := range []impl.Pipe{p, out} {
		expectCall(t, impl.ReportText, in(told), modelReport(told))
	}
}

// expectRefused: nothing is told of that graph, or of so many moves.
func expectRefused(t *testing.T, g []impl.Node, list []impl.Move) {
	t.Helper()
	expectCall(t, impl.PlayPipe, in(g, list), impl.Pipe{}, []int{}, false)
	expectCall(t, impl.RunOut, in(g, list), impl.Pipe{}, 0, false)
	expectCall(t, impl.OfferedIn, in(g, list), []impl.Move{}, false)
	expectCall(t, impl.LiveAfter, in(g, list), 0, false)
	for _, item := range []int{-1, 0, 1} {
		expectCall(t, impl.AccountOf, in(g, list, item), []impl.Emit{}, false)
	}
}

// play is moves in a graph, each one's code, and the pipe behind them.
type play struct {
	g     []impl.Node
	moves string
	codes string
	pipe  string
}

func expectPlays(t *testing.T, plays map[string]play) {
	t.Helper()
	for name, c := range plays {
		t.Run(name, func(t *testing.T) {
			t.Helper()
			got := guardedCall(t, impl.PlayPipe, in(c.g, moves(c.moves)))
			if !sameValues(got[1:], []any{numbers(c.codes), true}) {
				t.Errorf("%s: codes %v, %v, not %s", c.moves, got[1], got[2], c.codes)
			}
			if told := pipeText(got[0].(impl.Pipe)); told != c.pipe {
				t.Errorf("%s:\n%s, not\n%s", c.moves, told, c.pipe)
			}
			expectPipeModel(t, c.g, moves(c.moves), -1, 0, 1, 2, got[0].(impl.Pipe).Items-1, got[0].(impl.Pipe).Items)
		})
	}
}

func TestPipeConstants(t *testing.T) {
	got := []int{impl.MaxMoves, impl.MaxTries, impl.PipeMaxR, impl.PipeWithin, impl.MoveOffer, impl.MoveStep, impl.MoveFault, impl.MoveTick,
		impl.MoveDrain, impl.MoveAbort, impl.PipeOk, impl.PipeBad, impl.PipeNone, impl.PipeClosed, impl.PipeFull, impl.PipeEmpty,
		impl.PipeBlocked, impl.LostPoison, impl.LostAborted}
	if want := []int{300, 3, 5, 10, 1, 2, 3, 4, 5, 6, 0, 1, 2, 3, 4, 5, 6, 1, 2}; !slices.Equal(got, want) {
		t.Error(got, want)
	}
}

func TestPlayPipe(t *testing.T) {
	expectPlays(t, map[string]play{
		"no moves":                     {shape("1 -"), "", "", "[] []"},
		"no moves, ten nodes":          {shape(tenInARow), "", "", "[] [] [] [] [] [] [] [] [] []"},
		"one node":                     {shape("-"), "o0=4 s0", "0 0", "items 1 [] out 0:0:4"},
		"two nodes":                    {staged("1 -", mapBy(2, 0), mapBy(1, 1)), "o0=4 s0 s1", "0 0 0", "items 1 [] [] out 0:1:9"},
		"the first one first":          {staged("1 -", mapBy(2, 0)), "o0=4 o0=5 s0 s0 s1", "0 0 0 0 0", "items 2 [] [1:10] out 0:1:8"},
		"one overtakes by another way": {shape("2 2 -"), "o0=1 o1=2 s1 s0 s2 s2", "0 0 0 0 0 0", "items 2 [] [] [] out 1:2:2 0:2:1"},
		"against the numbers":          {shape("- 0 1"), "o2=4 s2 s1 s0", "0 0 0 0", "items 1 [] [] [] out 0:0:4"},
		"two graphs in one":            {shape("2 3 - -"), "o1=4 s1 o0=5 s0 s3 s2", "0 0 0 0 0 0", "items 2 [] [] [] [] out 0:3:4 1:2:5"},
		"all at once": {staged("1 -", expandBy(2, 1), poisonBy(5, 0)), "o0=4 s0 s1 s1 t3 o0=9 d f0 s1 o0=1 a s1",
			"0 0 0 0 0 0 0 0 0 3 0 5", "tick 3 items 2 closed [] [] out 0:1:4 lost 1:0:9:2 0:1:5:2 faults 0 3 3"},
	})
}

func TestMovesOfNoKind(t *testing.T) {
	for _, kind := range []int{0, 7, 8, -1, -2, math.MinInt, math.MinInt + 1, math.MaxInt - 1, math.MaxInt} {
		for _, other := range []int{0, 1, -1, math.MinInt, math.MaxInt} {
			m := impl.Move{Kind: kind, Node: other, Value: other}
			expectCall(t, impl.PlayPipe, in(shape("1 -"), []impl.Move{m}), impl.Pipe{Boxes: make([][]impl.Token, 2)}, []int{impl.PipeBad}, true)
			list := slices.Insert(moves("o0=4 s0 s1 d a"), 1, m)
			expectPipeModel(t, shape("1 -"), list, 0)
			p, codes, _ := impl.PlayPipe(shape("1 -"), list)
			if told := pipeText(p); told != "items 1 closed [] [] out 0:1:4" || !slices.Equal(codes, []int{0, 1, 0, 0, 0, 3}) {
				t.Error(kind, told, codes)
			}
		}
	}
}

func TestMoveOffer(t *testing.T) {
	one := shape("1 -")
	least, most := strconv.Itoa(math.MinInt), strconv.Itoa(math.MaxInt)
	expectPlays(t, map[string]play{
		"at a source":                      {one, "o0=4", "0", "items 1 [0:4] []"},
		"at two sources":                   {shape("2 2 -"), "o1=4 o0=5", "0 0", "items 2 [1:5] [0:4] []"},
		"at the last node":                 {shape("- 0"), "o1=4", "0", "items 1 [] [0:4]"},
		"no source":                        {one, "o1=4", "2", "[] []"},
		"in the midst":                     {shape("1 2 -"), "o1=4", "2", "[] [] []"},
		"led to twice":                     {shape("2 2 -"), "o2=4", "2", "[] [] []"},
		"node -1":                          {one, "o-1=4", "2", "[] []"},
		"one node more":                    {one, "o2=4", "2", "[] []"},
		"one node more of ten":             {shape(tenInARow), "o10=4", "2", "[] [] [] [] [] [] [] [] [] []"},
		"the least node":                   {one, "o" + least + "=4", "2", "[] []"},
		"the greatest node":                {one, "o" + most + "=4", "2", "[] []"},
		"the greatest value":               {one, "o0=1000000", "0", "items 1 [0:1000000] []"},
		"the least value":                  {one, "o0=-1000000", "0", "items 1 [0:-1000000] []"},
		"above the values":                 {one, "o0=1000001", "2", "[] []"},
		"below the values":                 {one, "o0=-1000001", "2", "[] []"},
		"the greatest int":                 {one, "o0=" + most, "2", "[] []"},
		"the least int":                    {one, "o0=" + least, "2", "[] []"},
		"no source, no value":              {one, "o1=1000001", "2", "[] []"},
		"behind a drain":                   {one, "d o0=4", "0 3", "closed [] []"},
		"behind an abort":                  {one, "a o0=4", "0 3", "closed [] []"},
		"into a full box":                  {one, "o0=1 o0=2 o0=3 o0=4", "0 0 0 4", "items 3 [0:1 1:2 2:3] []"},
		"into a full box of 8":             {capped(8, one), "o0=1*8 o0=2*2", "0 0 0 0 0 0 0 0 4 4", "items 8 [0:1 1:1 2:1 3:1 4:1 5:1 6:1 7:1] []"},
		"full, then room":                  {one, "o0=1*4 s0 o0=5 o0=6", "0 0 0 4 0 0 4", "items 4 [1:1 2:1 3:5] [0:1]"},
		"a full box, another one has room": {shape("- -"), "o0=1*4 o1=2", "0 0 0 4 0", "items 4 [0:1 1:1 2:1] [3:2]"},
		"no source, closed":                {one, "d o1=4 o-1=4 o2=4", "0 2 2 2", "closed [] []"},
		"no value, closed":                 {one, "d o0=1000001 o0=-1000001 o0=1000000", "0 2 2 3", "closed [] []"},
		"no value, full":                   {one, "o0=1*3 o0=1000001 o0=-1000001 o0=1000000", "0 0 0 2 2 4", "items 3 [0:1 1:1 2:1] []"},
		"no source, full":                  {capped(3, one), "o0=1*3 s0*3 o1=4", "0 0 0 0 0 0 2", "items 3 [] [0:1 1:1 2:1]"},
		"closed, full":                     {one, "o0=1*3 d o0=4", "0 0 0 0 3", "items 3 closed [0:1 1:1 2:1] []"},
		"closed, full, no value":           {one, "o0=1*3 d o0=1000001", "0 0 0 0 2", "items 3 closed [0:1 1:1 2:1] []"},
		"what was refused is no item":      {one, "o0=1 o1=2 o0=1000001 o0=3", "0 2 2 0", "items 2 [0:1 1:3] []"},
		"poison may be offered":            {staged("-", allFails), "o0=4", "0", "items 1 [0:4]"},
	})
}

func TestMoveStep(t *testing.T) {
	expand := staged("1 -", expandBy(3, 10))
	filter := staged("1 -", filterBy(2, 1))
	// Node 3 fills node 2, into which 0 leads too; node 4 fills node 1.
	both := shape("12 - - 2 1")
	bothTurned := shape("21 - - 2 1")
	expectPlays(t, map[string]play{
		"node -1":                         {shape("1 -"), "o0=4 s-1", "0 2", "items 1 [0:4] []"},
		"one node more":                   {shape("1 -"), "o0=4 s2", "0 2", "items 1 [0:4] []"},
		"the least node":                  {shape("1 -"), "o0=4 s" + strconv.Itoa(math.MinInt), "0 2", "items 1 [0:4] []"},
		"the greatest node":               {shape("1 -"), "o0=4 s" + strconv.Itoa(math.MaxInt), "0 2", "items 1 [0:4] []"},
		"empty at first":                  {shape("1 -"), "s0 s1", "5 5", "[] []"},
		"empty behind a step":             {shape("1 -"), "o0=4 s0 s0 s1 s1", "0 0 5 0 5", "items 1 [] [] out 0:1:4"},
		"behind a drain":                  {shape("1 -"), "o0=4 d s0 s1", "0 0 0 0", "items 1 closed [] [] out 0:1:4"},
		"nothing comes out":               {filter, "o0=4 s0", "0 0", "items 1 [] []"},
		"nothing comes out of an end":     {staged("-", filterBy(2, 1)), "o0=4 o0=5 s0*2", "0 0 0 0", "items 2 [] out 1:0:5"},
		"nothing needs no room":           {capped(3, filter), "o0=1*3 s0*3 o0=4 o0=5 s0 s0", "0 0 0 0 0 0 0 0 0 6", "items 5 [4:5] [0:1 1:1 2:1]"},
		"more comes out":                  {expand, "o0=4 s0", "0 0", "items 1 [] [0:4 0:14 0:24]"},
		"more comes out of an end":        {staged("-", expandBy(3, -10)), "o0=4 s0", "0 0", "items 1 [] out 0:0:4 0:0:-6 0:0:-16"},
		"an end needs no room":            {staged("-", expandBy(3, 0)), "o0=4*3 s0", "0 0 0 0", "items 3 [1:4 2:4] out 0:0:4 0:0:4 0:0:4"},
		"cut on its way":                  {staged("1 -", expandBy(3, 1000), mapBy(-100, 0)), "o0=999999 s0 s1*3", "0 0 0 0 0", "items 1 [] [] out 0:1:-1000000 0:1:-1000000 0:1:-1000000"},
		"room for just all":               {capped(3, expand), "o0=4 s0", "0 0", "items 1 [] [0:4 0:14 0:24]"},
		"room for one less":               {expand, "o0=4*2 s0 s0", "0 0 0 6", "items 2 [1:4] [0:4 0:14 0:24]"},
		"room for one less, then for all": {expand, "o0=4*2 s0 s1 s0 s1 s0", "0 0 0 0 6 0 0", "items 2 [] [0:24 1:4 1:14 1:24] out 0:1:4 0:1:14"},
		"no room at all":                  {capped(3, shape("1 -")), "o0=1*3 s0*3 o0=2 s0 s0", "0 0 0 0 0 0 0 6 6", "items 4 [3:2] [0:1 1:1 2:1]"},
		"blocked keeps Tries":             {capped(3, shape("1 -")), "o0=1*3 s0*3 o0=2 f0 s0 s1 s0", "0 0 0 0 0 0 0 0 6 0 0", "items 4 [] [1:1 2:1 3:2] out 0:1:1 faults 0"},
		"a later Next has no room":        {both, "o3=7*5 s3*5 o0=1 s0", "0 0 0 0 0 0 0 0 0 0 0 6", "items 6 [5:1] [] [0:7 1:7 2:7 3:7 4:7] [] []"},
		"a later Next has room again":     {both, "o3=7*5 s3*5 o0=1 s0 s2 s0", "0 0 0 0 0 0 0 0 0 0 0 6 0 0", "items 6 [] [5:1] [1:7 2:7 3:7 4:7 5:1] [] [] out 0:2:7"},
		"the first Next has no room":      {bothTurned, "o3=7*5 s3*5 o0=1 s0", "0 0 0 0 0 0 0 0 0 0 0 6", "items 6 [5:1] [] [0:7 1:7 2:7 3:7 4:7] [] []"},
		"no Next has room":                {both, "o3=7*5 s3*5 o4=8*4 s4*4 o0=1 s0", "0 0 0 0 0 0 0 0 0 0 0 0 0 0 0 0 0 0 0 6", "items 10 [9:1] [5:8 6:8 7:8 8:8] [0:7 1:7 2:7 3:7 4:7] [] []"},
		"one Next lacks one of three": {changedNode(both, 0, func(n *impl.Node) { n.Stage = expandBy(3, 1) }), "o3=7*3 s3*3 o0=1 s0 s2 s0", "0 0 0 0 0 0 0 6 0 0",
			"items 4 [] [3:1 3:2 3:3] [1:7 2:7 3:1 3:2 3:3] [] [] out 0:2:7"},
		"value by value, to each Next": {staged("21 3 3 -", expandBy(3, 1), mapBy(10, 0), mapBy(-1, 0)), "o0=4 s0", "0 0", "items 1 [] [0:4 0:5 0:6] [0:4 0:5 0:6] []"},
		"two lead into one": {capped(6, staged("12 3 3 -", expandBy(2, 1), mapBy(10, 0), mapBy(-1, 0))), "o0=4 s0 s1 s2 s2 s1 s3*3", "0 0 0 0 0 0 0 0 0",
			"items 1 [] [] [] [0:50] out 0:3:40 0:3:-4 0:3:-5"},
		"two items into one":             {shape("2 2 -"), "o0=1 o1=2 o0=3 s1 s0 s0", "0 0 0 0 0 0", "items 3 [] [] [1:2 0:1 2:3]"},
		"a shorter and a longer way":     {staged("12 2 -", mapBy(1, 1), mapBy(10, 0)), "o0=4 s0 s2 s1 s2", "0 0 0 0 0", "items 1 [] [] [] out 0:2:5 0:2:50"},
		"Tries begin anew in each box":   {shape("1 -"), "o0=4 f0*3 s0", "0 0 0 0 0", "items 1 [] [0:4] faults 0 0 0"},
		"poison lets by what is not met": {staged("1 -", poisonBy(3, 1)), "o0=3 s0", "0 0", "items 1 [] [0:3]"},
		"poison fails":                   {staged("1 -", poisonBy(3, 1)), "o0=4 s0", "0 0", "items 1 [0:4/1] [] faults 0"},
		"poison fails where it is blocked": {capped(3, staged("1 -", poisonBy(3, 1))), "o0=3*3 s0*3 o0=4 s0 o0=6", "0 0 0 0 0 0 0 0 0",
			"items 5 [3:4/1 4:6] [0:3 1:3 2:3] faults 0"},
		"poison at an end":      {staged("-", allFails), "o0=4 s0*2", "0 0 0", "items 1 [0:4/2] faults 0 0"},
		"poison, the third try": {staged("-", allFails), "o0=4 s0*3", "0 0 0 0", "items 1 [0:4/3] faults 0 0 0"},
		"poison, the fourth":    {staged("-", allFails), "o0=4 s0*4", "0 0 0 0 0", "items 1 [] lost 0:0:4:1 faults 0 0 0 0"},
		"poison, behind it":     {staged("-", allFails), "o0=4 s0*5", "0 0 0 0 0 5", "items 1 [] lost 0:0:4:1 faults 0 0 0 0"},
		"only the first fails":  {staged("-", poisonBy(2, 0)), "o0=4 o0=5 s0*4 s0", "0 0 0 0 0 0 0", "items 2 [] out 1:0:5 lost 0:0:4:1 faults 0 0 0 0"},
	})
}

func TestMoveFault(t *testing.T) {
	expectPlays(t, map[string]play{
		"node -1":                      {shape("1 -"), "o0=4 f-1", "0 2", "items 1 [0:4] []"},
		"one node more":                {shape("1 -"), "o0=4 f2", "0 2", "items 1 [0:4] []"},
		"the least node":               {shape("1 -"), "o0=4 f" + strconv.Itoa(math.MinInt), "0 2", "items 1 [0:4] []"},
		"the greatest node":            {shape("1 -"), "o0=4 f" + strconv.Itoa(math.MaxInt), "0 2", "items 1 [0:4] []"},
		"empty":                        {shape("1 -"), "f0 f1 o0=4 f1", "5 5 0 5", "items 1 [0:4] []"},
		"once":                         {shape("1 -"), "o0=4 f0", "0 0", "items 1 [0:4/1] [] faults 0"},
		"only the first":               {shape("1 -"), "o0=4 o0=5 f0", "0 0 0", "items 2 [0:4/1 1:5] [] faults 0"},
		"the third try":                {shape("1 -"), "o0=4 f0*3", "0 0 0 0", "items 1 [0:4/3] [] faults 0 0 0"},
		"the third try, then it goes":  {shape("1 -"), "o0=4 f0*3 s0", "0 0 0 0 0", "items 1 [] [0:4] faults 0 0 0"},
		"the fourth try":               {shape("1 -"), "o0=4 f0*4", "0 0 0 0 0", "items 1 [] [] lost 0:0:4:1 faults 0 0 0 0"},
		"the fourth, then the next":    {shape("1 -"), "o0=4 o0=5 f0*5", "0 0 0 0 0 0 0", "items 2 [1:5/1] [] lost 0:0:4:1 faults 0 0 0 0 0"},
		"lost in the midst":            {staged("1 2 -", mapBy(2, 0)), "o0=4 s0 f1*4", "0 0 0 0 0 0", "items 1 [] [] [] lost 0:1:8:1 faults 0 0 0 0"},
		"lost at an end":               {staged("1 -", mapBy(2, 0), mapBy(2, 0)), "o0=4 s0 f1*4", "0 0 0 0 0 0", "items 1 [] [] lost 0:1:8:1 faults 0 0 0 0"},
		"lost makes room":              {shape("1 -"), "o0=4*3 o0=5 f0*4 o0=6", "0 0 0 4 0 0 0 0 0", "items 4 [1:4 2:4 3:6] [] lost 0:0:4:1 faults 0 0 0 0"},
		"poison, by a fault":           {staged("-", allFails), "o0=4 f0", "0 0", "items 1 [0:4/1] faults 0"},
		"faults and steps that fail":   {staged("-", allFails), "o0=4 f0 s0 f0 s0", "0 0 0 0 0", "items 1 [] lost 0:0:4:1 faults 0 0 0 0"},
		"behind a drain":               {shape("1 -"), "o0=4 d f0*4 f0", "0 0 0 0 0 0 5", "items 1 closed [] [] lost 0:0:4:1 faults 0 0 0 0"},
		"one more, 9 ticks behind":     {shape("-"), "o0=4 f0 t9 f0", "0 0 0 0", "tick 9 items 1 [0:4/2] faults 0 9"},
		"one more, 10 ticks behind":    {shape("-"), "o0=4 f0 t10 f0", "0 0 0 0", "tick 10 items 1 [0:4/2] faults 10"},
		"one more, 11 ticks behind":    {shape("-"), "o0=4 f0 t11 f0", "0 0 0 0", "tick 11 items 1 [0:4/2] faults 11"},
		"some are near, some are not":  {shape("-"), "o0=4*2 t5 f0 t1 f0 t1 f0 t9 f0", "0 0 0 0 0 0 0 0 0 0", "tick 16 items 2 [1:4] lost 0:0:4:1 faults 7 16"},
		"a tick alone drops none":      {shape("-"), "o0=4 f0 t1000 t1000", "0 0 0 0", "tick 2000 items 1 [0:4/1] faults 0"},
		"five at once":                 {shape("-"), "o0=4*2 f0*5", "0 0 0 0 0 0 0", "items 2 [1:4/1] lost 0:0:4:1 faults 0 0 0 0 0"},
		"six at once":                  {shape("-"), "o0=4*2 f0*6", "0 0 0 0 0 0 0 0", "items 2 closed [] lost 0:0:4:1 1:0:4:2"},
		"six at once, by steps":        {staged("-", allFails), "o0=4*2 s0*6", "0 0 0 0 0 0 0 0", "items 2 closed [] lost 0:0:4:1 1:0:4:2"},
		"the sixth is a step":          {staged("-", allFails), "o0=4*2 f0*5 s0", "0 0 0 0 0 0 0 0", "items 2 closed [] lost 0:0:4:1 1:0:4:2"},
		"the sixth is a fault":         {staged("-", allFails), "o0=4*2 s0*5 f0", "0 0 0 0 0 0 0 0", "items 2 closed [] lost 0:0:4:1 1:0:4:2"},
		"six over 9 ticks":             {shape("-"), "o0=4*2 f0 t2 f0 t2 f0 t2 f0 t2 f0 t1 f0", "0 0 0 0 0 0 0 0 0 0 0 0 0", "tick 9 items 2 closed [] lost 0:0:4:1 1:0:4:2"},
		"six over 10 ticks":            {shape("-"), "o0=4*2 f0 t2 f0 t2 f0 t2 f0 t2 f0 t2 f0", "0 0 0 0 0 0 0 0 0 0 0 0 0", "tick 10 items 2 [1:4/2] lost 0:0:4:1 faults 2 4 6 8 10"},
		"five, and one far behind":     {shape("-"), "o0=4*2 f0*5 t10 f0", "0 0 0 0 0 0 0 0 0", "tick 10 items 2 [1:4/2] lost 0:0:4:1 faults 10"},
		"five, and one nearly so":      {shape("-"), "o0=4*2 f0*5 t9 f0", "0 0 0 0 0 0 0 0 0", "tick 9 items 2 closed [] lost 0:0:4:1 1:0:4:2"},
		"in all boxes together":        {shape("1 2 -"), "o0=4 s0 s1 o0=5 s0 o0=6 f0*2 f1*2 f2 f1", "0 0 0 0 0 0 0 0 0 0 0 0", "items 3 closed [] [] [] lost 2:0:6:2 1:1:5:2 0:2:4:2"},
		"the sixth is a fourth try":    {shape("-"), "o0=4 o0=5 o0=6 f0*2 t10 f0*6", "0 0 0 0 0 0 0 0 0 0 0 0", "tick 10 items 3 closed [] lost 0:0:4:1 1:0:5:1 2:0:6:2"},
		"and none is left":             {shape("-"), "o0=4 o0=5 d f0*2 t10 f0*6", "0 0 0 0 0 0 0 0 0 0 0 0", "tick 10 items 2 closed [] lost 0:0:4:1 1:0:5:1"},
		"and none is left, by steps":   {staged("-", allFails), "o0=4 o0=5 d s0*2 t10 s0*6", "0 0 0 0 0 0 0 0 0 0 0 0", "tick 10 items 2 closed [] lost 0:0:4:1 1:0:5:1"},
		"and none is left, still open": {shape("-"), "o0=4 o0=5 f0*2 t10 f0*6 d", "0 0 0 0 0 0 0 0 0 0 0 3", "tick 10 items 2 closed [] lost 0:0:4:1 1:0:5:1"},
		"behind it all is refused":     {shape("1 -"), "o0=4*2 f0*6 o0=1 s0 f0 d a t1", "0 0 0 0 0 0 0 0 3 5 5 3 3 0", "tick 1 items 2 closed [] [] lost 0:0:4:1 1:0:4:2"},
		"refused ones do not count":    {shape("1 -"), "o0=4*2 f0*5 f1 f2 f-1 s1", "0 0 0 0 0 0 0 5 2 2 5", "items 2 [1:4/1] [] lost 0:0:4:1 faults 0 0 0 0 0"},
	})
}

func TestMoveTick(t *testing.T) {
	one := shape("-")
	expectPlays(t, map[string]play{
		"0":                {one, "t0", "0", "[]"},
		"1":                {one, "t1", "0", "tick 1 []"},
		"1000":             {one, "t1000", "0", "tick 1000 []"},
		"1001":             {one, "t1001", "2", "[]"},
		"-1":               {one, "t-1", "2", "[]"},
		"-1, of some":      {one, "t5 t-1", "0 2", "tick 5 []"},
		"1000000":          {one, "t1000000", "2", "[]"},
		"1000001":          {one, "t1000001", "2", "[]"},
		"the least int":    {one, "t5 t" + strconv.Itoa(math.MinInt), "0 2", "tick 5 []"},
		"the greatest int": {one, "t5 t" + strconv.Itoa(math.MaxInt), "0 2", "tick 5 []"},
		"together":         {one, "t3 t1000 t0 t4", "0 0 0 0", "tick 1007 []"},
		"closed":           {one, "d t3", "0 0", "tick 3 closed []"},
		"nothing moves":    {shape("1 -"), "o0=4 t3", "0 0", "tick 3 items 1 [0:4] []"},
	})
	// MaxMoves ticks of 1000 come to 300000: no moves lead a pipe to 1000000, where PipeFull would be told.
	p, codes, ok := impl.PlayPipe(one, moves("t1000*300"))
	if p.Tick != 300000 || !slices.Equal(codes, make([]int, 300)) || !ok {
		t.Error(p.Tick, codes, ok)
	}
	expectPipeModel(t, one, moves("t1000*300"))
	late := guardedCall(t, impl.PlayPipe, in(one, moves("t1000*290 o0=4*2 f0*2 t10 f0*4")))
	if told := pipeText(late[0].(impl.Pipe)); told != "tick 290010 items 2 [1:4/2] lost 0:0:4:1 faults 290010 290010 290010 290010" {
		t.Error(told)
	}
}

func TestDrainAndAbort(t *testing.T) {
	expectPlays(t, map[string]play{
		"drain":                     {shape("-"), "d", "0", "closed []"},
		"drain twice":               {shape("-"), "d d", "0 3", "closed []"},
		"drain twice, with tokens":  {shape("-"), "o0=4 d d", "0 0 3", "items 1 closed [0:4]"},
		"drain behind an abort":     {shape("-"), "a d", "0 3", "closed []"},
		"abort, open and empty":     {shape("-"), "a", "0", "closed []"},
		"abort twice":               {shape("-"), "a a", "0 3", "closed []"},
		"abort, open with tokens":   {shape("-"), "o0=4 a", "0 0", "items 1 closed [] lost 0:0:4:2"},
		"abort, closed with tokens": {shape("-"), "o0=4 d a", "0 0 0", "items 1 closed [] lost 0:0:4:2"},
		"abort, closed without":     {shape("-"), "d a", "0 3", "closed []"},
		"abort, closed, all is out": {shape("-"), "o0=4 d s0 a", "0 0 0 3", "items 1 closed [] out 0:0:4"},
		"abort, closed, all failed": {shape("-"), "o0=4 d f0*4 a", "0 0 0 0 0 0 3", "items 1 closed [] lost 0:0:4:1 faults 0 0 0 0"},
		"abort, tokens twice":       {shape("-"), "o0=4 a a", "0 0 3", "items 1 closed [] lost 0:0:4:2"},
		"abort keeps Faults":        {shape("-"), "o0=4 f0 t3 f0 a", "0 0 0 0 0", "tick 3 items 1 closed [] lost 0:0:4:2 faults 0 3"},
		"abort keeps what is out":   {shape("-"), "o0=4*2 s0 a", "0 0 0 0", "items 2 closed [] out 0:0:4 lost 1:0:4:2"},
		"abort keeps what failed":   {shape("-"), "o0=4 o0=5 f0*4 a", "0 0 0 0 0 0 0", "items 2 closed [] lost 0:0:4:1 1:0:5:2 faults 0 0 0 0"},
		"box by box":                {shape("1 2 -"), "o0=1 o0=2 o0=3 s0 s1 s0 a", "0 0 0 0 0 0 0", "items 3 closed [] [] [] lost 2:0:3:2 1:1:2:2 0:2:1:2"},
		"box by box, by number":     {shape("- 0 1"), "o2=1 o2=2 o2=3 s2 s1 s2 a", "0 0 0 0 0 0 0", "items 3 closed [] [] [] lost 0:0:1:2 1:1:2:2 2:2:3:2"},
		"in a box in its order":     {staged("1 -", expandBy(2, -5)), "o0=9 o0=1 s0*2 o0=7 a", "0 0 0 0 0 0", "items 3 closed [] [] lost 2:0:7:2 0:1:9:2 0:1:4:2 1:1:1:2 1:1:-4:2"},
		"Tries are not told":        {shape("-"), "o0=4 f0*3 a", "0 0 0 0 0", "items 1 closed [] lost 0:0:4:2 faults 0 0 0"},
		"nothing behind an abort":   {shape("1 -"), "o0=4 a s0 s1 f0 f1", "0 0 5 5 5 5", "items 1 closed [] [] lost 0:0:4:2"},
	})
}

// Node and Value are looked at as told alone: whatever they are in other moves, nothing else comes of these.
func TestFieldsThatAreNotLookedAt(t *testing.T) {
	others := []int{0, 1, 2, 3, -1, 1000000, 1000001, math.MinInt, math.MaxInt}
	g := staged("12 - -", expandBy(2, 1), poisonBy(2, 0), filterBy(2, 1))
	for _, text := range []string{"o0=4*3 s0 s1 s2 f0 t5 s0 s1 f2 t10 s2*2 d f1 a", "o0=4*2 f0*6 d a t3 s0 f0", "a a d", "d d a", "t1001 t-1 t0 s5 f5 s-1 f-1 s0 f0"} {
		plain := moves(text)
		p, codes, _ := impl.PlayPipe(g, plain)
		for k := range plain {
			for _, other := range others {
				list := slices.Clone(plain)
				switch list[k].Kind {
				case impl.MoveStep, impl.MoveFault:
					list[k].Value = other
				case impl.MoveTick:
					list[k].Node = other
				case impl.MoveDrain, impl.MoveAbort:
					list[k].Node, list[k].Value = other, -other
				}
				expectCall(t, impl.PlayPipe, in(g, list), p, codes, true)
			}
		}
	}
}

func TestPipesOfBadGraphs(t *testing.T) {
	for name, bad := range badGraphs() {
		t.Run(name, func(t *testing.T) {
			expectRefused(t, bad.g, nil)
			expectRefused(t, bad.g, moves("o0=4 s0 d"))
		})
	}
}

func TestPipesOfWideGraphs(t *testing.T) {
	for name, g := range map[string][]impl.Node{
		"401":                oneMore(),
		"512":                widening("222222222", 1, "1 2 3 4 5 6 7 8 -"),
		"729":                widening("333333", 1, "1 2 3 4 5 -"),
		"100000":             hundredThousand(),
		"150000":             hundredThousandAt(3),
		"far above":          widening("3333333333", 1, tenAll),
		"401, and one alone": append(oneMore(), impl.Node{Name: "z", Stage: same, Cap: 3}),
	} {
		t.Run(name, func(t *testing.T) {
			expectRefused(t, g, nil)
			expectRefused(t, g, moves("o0=4 s0 d"))
			expectRefused(t, g, moves("o6=4 s6 d"))
		})
	}
	for name, g := range goodGraphs() {
		if widest, _ := impl.WidestOf(g); widest > 400 {
			expectRefused(t, g, moves("o0=4"))
			continue
		}
		t.Run(name, func(t *testing.T) {
			expectPipeModel(t, g, nil, -1, 0)
			var list []impl.Move
			sources, _ := impl.SourcesOf(g)
			for _, node := range sources {
				list = append(list, impl.Move{Kind: impl.MoveOffer, Node: node, Value: 7}, impl.Move{Kind: impl.MoveStep, Node: node})
			}
			expectPipeModel(t, g, list, 0, len(sources)-1, len(sources))
		})
	}
	p, steps, ok := impl.RunOut(exactly400(), moves("o5=3"))
	if len(p.Emitted) != 400 || steps < 200 || !ok {
		t.Error(len(p.Emitted), steps, ok)
	}
	expectPipeModel(t, exactly400(), moves("o5=3 o5=4 s5 s0*2 s1*2 s4 s3 d"), -1, 0, 1, 2)
}

func TestSoManyMoves(t *testing.T) {
	g := shape("1 -")
	for _, text := range []string{"t1*299", "t1*300", "s0*300", "o0=4*300", "o0=4*100 s0*100 s1*100", "o0=1 s0 s1 t5*290 o0=7 f0*4"} {
		expectPipeModel(t, g, moves(text), 0, 1)
		if _, codes, ok := impl.PlayPipe(g, moves(text)); len(codes) != len(moves(text)) || !ok {
			t.Error(text, len(codes), ok)
		}
	}
	for _, text := range []string{"t1*301", "s0*301", "o0=4*301", "t1*302", "t1*600", "t1*5000"} {
		expectRefused(t, g, moves(text))
	}
	// Those that are refused count as well as others.
	expectRefused(t, g, slices.Repeat([]impl.Move{{Kind: 7}}, 301))
	expectRefused(t, g, make([]impl.Move, 301))
	expectPipeModel(t, g, make([]impl.Move, 300))
}

func TestRunOut(t *testing.T) {
	two := staged("1 -", mapBy(2, 0), mapBy(1, 1))
	wide := capped(3, staged("1 2 -", expandBy(3, 1), expandBy(3, 10), expandBy(3, 100)))
	for name, c := range map[string]struct {
		g     []impl.Node
		moves string
		steps int
		pipe  string
	}{
		"no moves":                       {two, "", 0, "closed [] []"},
		"no tokens":                      {two, "t5 s0 o1=3", 0, "tick 5 closed [] []"},
		"all is out already":             {two, "o0=4 s0 s1", 0, "items 1 closed [] [] out 0:1:9"},
		"one token":                      {two, "o0=4", 2, "items 1 closed [] [] out 0:1:9"},
		"one token, half way":            {two, "o0=4 s0", 1, "items 1 closed [] [] out 0:1:9"},
		"several tokens":                 {two, "o0=4 o0=5 o0=6", 6, "items 3 closed [] [] out 0:1:9 1:1:11 2:1:13"},
		"behind a drain":                 {two, "o0=4 d", 2, "items 1 closed [] [] out 0:1:9"},
		"behind a drain, no tokens":      {two, "d", 0, "closed [] []"},
		"behind an abort":                {two, "o0=4 a", 0, "items 1 closed [] [] lost 0:0:4:2"},
		"behind an abort by faults":      {two, "o0=4*2 f0*6", 0, "items 2 closed [] [] lost 0:0:4:1 1:0:4:2"},
		"full boxes":                     {capped(3, shape("1 2 -")), "o0=1*3 s0*3 s1*3 o0=2*3 s0*3 o0=3*3", 18, "items 9 closed [] [] [] out 0:2:1 1:2:1 2:2:1 3:2:2 4:2:2 5:2:2 6:2:3 7:2:3 8:2:3"},
		"full boxes that widen":          {wide, "o0=0 s0 s1", 11, "items 1 closed [] [] [] out " + rowOf(0, 2, "0 100 200 10 110 210 20 120 220 1 101 201 11 111 211 21 121 221 2 102 202 12 112 212 22 122 222")},
		"the end first, not the source":  {shape("1 -"), "o0=1 o0=2 s0 o0=3", 5, "items 3 closed [] [] out 0:1:1 1:1:2 2:1:3"},
		"the last of the order first":    {shape("- - -"), "o0=1 o1=2 o2=3", 3, "items 3 closed [] [] [] out 2:2:3 1:1:2 0:0:1"},
		"of the order, not of the nodes": {shape("- 0 1"), "o2=1 s2 o2=2 s1 o2=3 s2", 6, "items 3 closed [] [] [] out 0:0:1 1:0:2 2:0:3"},
		"two ways":                       {staged("12 3 3 -", same, mapBy(10, 0), mapBy(-1, 0)), "o0=4", 5, "items 1 closed [] [] [] [] out 0:3:-4 0:3:40"},
		"order and numbers differ":       {shape("- 0 -"), "o1=1 o2=2", 3, "items 2 closed [] [] [] out 1:2:2 0:0:1"},
		"a filter":                       {staged("1 -", filterBy(2, 1)), "o0=4 o0=5", 3, "items 2 closed [] [] out 1:1:5"},
		"all filtered":                   {staged("-", filterBy(2, 1)), "o0=4 o0=6", 2, "items 2 closed []"},
		"one that is poison":             {staged("-", poisonBy(5, 0)), "o0=5 o0=6", 5, "items 2 closed [] out 1:0:6 lost 0:0:5:1 faults 0 0 0 0"},
		"poison that was tried":          {staged("-", allFails), "o0=5 s0*3", 1, "items 1 closed [] lost 0:0:5:1 faults 0 0 0 0"},
		"two that are poison":            {staged("-", allFails), "o0=5 o0=6 o0=7", 6, "items 3 closed [] lost 0:0:5:1 1:0:6:2 2:0:7:2"},
		"poison behind, others ahead":    {staged("1 -", same, allFails), "o0=5 o0=6 o0=7", 8, "items 3 closed [] [] lost 0:1:5:1 2:0:7:2 1:1:6:2"},
		"Faults that are near":           {staged("-", allFails), "o0=5*3 s0*5 t9", 1, "tick 9 items 3 closed [] lost 0:0:5:1 1:0:5:2 2:0:5:2"},
		"Faults that are far":            {staged("-", allFails), "o0=5*3 s0*5 t10", 6, "tick 10 items 3 closed [] lost 0:0:5:1 1:0:5:1 2:0:5:2"},
		"faults of what is no poison":    {two, "o0=4 f0*3", 2, "items 1 closed [] [] out 0:1:9 faults 0 0 0"},
		"what is out stays":              {staged("-", poisonBy(2, 0)), "o0=5 s0 o0=7 o0=4 f0*4", 2, "items 3 closed [] out 0:0:5 lost 1:0:7:1 2:0:4:2"},
	} {
		t.Run(name, func(t *testing.T) {
			got := guardedCall(t, impl.RunOut, in(c.g, moves(c.moves)))
			if told := pipeText(got[0].(impl.Pipe)); told != c.pipe || got[1] != c.steps || got[2] != true {
				t.Errorf("%s: %v %v\n%s, not %d\n%s", c.moves, got[1], got[2], told, c.steps, c.pipe)
			}
			expectPipeModel(t, c.g, moves(c.moves), 0, 1, 2)
		})
	}
}

// rowOf are values that come out at one node of one item.
func rowOf(item, node int, values string) string {
	var words []string
	for _, v := range numbers(values) {
		words = append(words, fmt.Sprintf("%d:%d:%d", item, node, v))
	}
	return strings.Join(words, " ")
}

func TestAccountOf(t *testing.T) {
	wide := staged("12 - -", expandBy(2, 1), mapBy(10, 0), filterBy(2, 0))
	for name, c := range map[string]struct {
		g     []impl.Node
		moves string
		item  int
		want  []impl.Emit
	}{
		"one that lives":             {wide, "o0=4", 0, emits(1, 40, 1, 50, 2, 4)},
		"half way":                   {wide, "o0=4 s0", 0, emits(1, 40, 1, 50, 2, 4)},
		"some is out":                {wide, "o0=4 s0 s1 s2", 0, emits(1, 40, 1, 50, 2, 4)},
		"all is out":                 {wide, "o0=4 s0 s1*2 s2*2", 0, emits(1, 40, 1, 50, 2, 4)},
		"out in another order":       {staged("-", expandBy(3, -1)), "o0=4 s0", 0, emits(0, 2, 0, 3, 0, 4)},
		"failed":                     {wide, "o0=4 f0*4", 0, emits(1, 40, 1, 50, 2, 4)},
		"failed half way":            {wide, "o0=4 s0 s1 f1*4", 0, emits(1, 40, 1, 50, 2, 4)},
		"failed in all ways":         {wide, "o0=4 s0 s1 f1*4 t10 f2*4 a", 0, emits(1, 40, 1, 50, 2, 4)},
		"aborted":                    {wide, "o0=4 a", 0, emits(1, 40, 1, 50, 2, 4)},
		"aborted half way":           {wide, "o0=4 s0 s2 a", 0, emits(1, 40, 1, 50, 2, 4)},
		"aborted by faults":          {wide, "o0=4*2 f0*6", 1, emits(1, 40, 1, 50, 2, 4)},
		"poison that lives":          {staged("1 -", allFails, mapBy(2, 0)), "o0=4 s0", 0, emits(1, 8)},
		"poison that failed":         {staged("1 -", allFails, mapBy(2, 0)), "o0=4 s0*4", 0, emits(1, 8)},
		"poison at an end":           {staged("-", allFails), "o0=4 s0*4", 0, emits(0, 4)},
		"poison behind poison":       {staged("1 -", allFails, allFails), "o0=4 s0*4", 0, emits(1, 4)},
		"nothing comes of it, lives": {staged("1 -", filterBy(2, 1)), "o0=4", 0, nil},
		"nothing comes of it":        {staged("1 -", filterBy(2, 1)), "o0=4 s0", 0, nil},
		"nothing comes of it, lost":  {staged("1 -", filterBy(2, 1)), "o0=4 f0*4", 0, nil},
		"nothing, aborted":           {staged("1 -", same, filterBy(2, 1)), "o0=4 s0 a", 0, nil},
		"the first of three":         {wide, "o0=4 o0=5 o0=7 s0*2 s1", 0, emits(1, 40, 1, 50, 2, 4)},
		"the second of three":        {wide, "o0=4 o0=5 o0=7 s0*2 s1", 1, emits(1, 50, 1, 60, 2, 6)},
		"the last of three":          {wide, "o0=4 o0=5 o0=7 s0*2 s1", 2, emits(1, 70, 1, 80, 2, 8)},
		"twice the same value":       {wide, "o0=4 o0=4 s0 s1", 1, emits(1, 40, 1, 50, 2, 4)},
		"behind one that is refused": {wide, "o1=9 o0=1000001 o0=5", 0, emits(1, 50, 1, 60, 2, 6)},
		"from the second source":     {shape("2 2 -"), "o0=1 o1=2 s0 s1 s2", 1, emits(2, 2)},
		"several ways to one end":    {shape("12 3 3 -"), "o0=5 s0 s1 s3", 0, emits(3, 5, 3, 5)},
	} {
		t.Run(name, func(t *testing.T) { expectCall(t, impl.AccountOf, in(c.g, moves(c.moves), c.item), c.want, true) })
	}
	for _, text := range []string{"", "o0=4", "o0=4 o0=5", "o0=4 o0=5 o0=6 o0=7", "o1=4", "d o0=4", "o0=4 a", "o0=4 s0 s1*2 s2*2 o0=5"} {
		items := len(mustOffer(t, wide, text))
		for _, item := range []int{-1, items, items + 1, -2, math.MinInt, math.MaxInt} {
			expectCall(t, impl.AccountOf, in(wide, moves(text), item), []impl.Emit{}, false)
		}
		if items > 0 {
			expectPipeModel(t, wide, moves(text), 0, items-1)
		}
	}
	all, ok := impl.AccountOf(exactly400(), moves("o5=3 s5 s4 s3 s0 s0"), 0)
	if want, _ := impl.MeaningOf(exactly400(), 5, 3); len(all) != 400 || !slices.Equal(all, want) || !ok {
		t.Error(len(all), ok)
	}
}

func mustOffer(t *testing.T, g []impl.Node, text string) []impl.Move {
	t.Helper()
	offered, ok := impl.OfferedIn(g, moves(text))
	if !ok {
		t.Fatal(text)
	}
	return offered
}

func TestOfferedIn(t *testing.T) {
	g := shape("2 2 -")
	for name, c := range map[string]struct{ moves, want string }{
		"no moves":                {"", ""},
		"no offers":               {"s0 f0 t5 d a", ""},
		"one":                     {"o0=4", "o0=4"},
		"in order":                {"o1=4 o0=5 o1=3", "o1=4 o0=5 o1=3"},
		"among others":            {"t1 o1=4 s1 o0=5 f0 s2 d", "o1=4 o0=5"},
		"at no source":            {"o2=4 o0=5 o-1=3 o3=2", "o0=5"},
		"no value":                {"o0=1000001 o0=1000000 o0=-1000001 o1=-1000000", "o0=1000000 o1=-1000000"},
		"behind a drain":          {"o0=1 d o0=2", "o0=1"},
		"behind an abort":         {"o0=1 a o0=2", "o0=1"},
		"behind faults":           {"o0=1 o0=2 f0*6 o1=3", "o0=1 o0=2"},
		"a full box":              {"o0=1*3 o0=2 o1=3", "o0=1*3 o1=3"},
		"a full box, then room":   {"o0=1*4 s0 o0=5 o0=6", "o0=1*3 o0=5"},
		"all refused":             {"o2=4 o3=4 d o0=1 o1=1", ""},
		"those that failed":       {"o0=1 f0*4 o0=2 a", "o0=1 o0=2"},
		"those that are out":      {"o0=1 s0 s2 o0=2", "o0=1 o0=2"},
		"a step is not an offer":  {"o0=1 s0 s1", "o0=1"},
		"one at the other source": {"o1=4*4 o1=5", "o1=4*4"},
	} {
		t.Run(name, func(t *testing.T) {
			expectCall(t, impl.OfferedIn, in(g, moves(c.moves)), moves(c.want), true)
			expectPipeModel(t, g, moves(c.moves), 0)
		})
	}
}

func TestLiveAfter(t *testing.T) {
	g := capped(8, staged("12 - -", expandBy(3, 1), poisonBy(2, 1), filterBy(2, 0)))
	for text, want := range map[string]int{
		"":                          0,
		"s0 f0 t5":                  0,
		"o0=4":                      1,
		"o0=4*3":                    3,
		"o0=4*9":                    8,
		"o0=4 s0":                   6,
		"o0=4*2 s0":                 7,
		"o0=4*2 s0*2":               12,
		"o0=4*3 s0*3":               13,
		"o0=4 s0 s1":                5,
		"o0=4 s0 s2*3":              3,
		"o0=4 s0 s1*2":              5,
		"o0=4 s0 s1*5":              4,
		"o0=4 s0 s1*6 s2*3":         0,
		"o0=4 f0*3":                 1,
		"o0=4 f0*4":                 0,
		"o0=4 d":                    1,
		"o0=4*3 a":                  0,
		"o0=4*3 f0*6":               0,
		"o0=4*3 s0*2 a o0=4":        0,
		"d o0=4":                    0,
		"o0=4*8 s0*2 o0=4*2 s1*2 d": 8 + 12 - 1,
	} {
		expectCall(t, impl.LiveAfter, in(g, moves(text)), want, true)
		expectPipeModel(t, g, moves(text), 0)
	}
	full := capped(8, shape(tenInARow))
	var list []impl.Move
	for last := 9; last >= 0; last-- {
		list = append(list, moves("o0=1*2")...)
		for node := range last {
			list = append(list, impl.Move{Kind: impl.MoveStep, Node: node}, impl.Move{Kind: impl.MoveStep, Node: node})
		}
	}
	expectCall(t, impl.LiveAfter, in(full, list), 20, true)
}

func TestReportText(t *testing.T) {
	boxes := func(many ...int) [][]impl.Token {
		var all [][]impl.Token
		for _, n := range many {
			all = append(all, make([]impl.Token, n))
		}
		return all
	}
	strange := impl.Token{Item: -5, Value: math.MinInt, Tries: math.MaxInt}
	for _, c := range []struct {
		want string
		p    impl.Pipe
	}{
		{"items 0 emitted 0 failed 0 live 0", impl.Pipe{}},
		{"items 0 emitted 0 failed 0 live 0 closed", impl.Pipe{Closed: true}},
		{"items 7 emitted 0 failed 0 live 0", impl.Pipe{Items: 7}},
		{"items -7 emitted 0 failed 0 live 0", impl.Pipe{Items: -7}},
		{"items -1 emitted 1 failed 1 live 1 closed", impl.Pipe{Items: -1, Closed: true, Emitted: make([]impl.Out, 1), Failed: make([]impl.Lost, 1), Boxes: boxes(1)}},
		{"items 9223372036854775807 emitted 0 failed 0 live 0", impl.Pipe{Items: math.MaxInt}},
		{"items -9223372036854775808 emitted 0 failed 0 live 0 closed", impl.Pipe{Items: math.MinInt, Closed: true}},
		{"items 10 emitted 0 failed 0 live 0", impl.Pipe{Items: 10, Tick: math.MaxInt, Faults: make([]int, 9)}},
		{"items 0 emitted 0 failed 0 live 0", impl.Pipe{Tick: -1}},
		{"items 0 emitted 12 failed 0 live 0", impl.Pipe{Emitted: make([]impl.Out, 12)}},
		{"items 0 emitted 0 failed 101 live 0", impl.Pipe{Failed: make([]impl.Lost, 101)}},
		{"items 0 emitted 0 failed 0 live 1", impl.Pipe{Boxes: boxes(1)}},
		{"items 0 emitted 0 failed 0 live 0", impl.Pipe{Boxes: boxes(0, 0, 0)}},
		{"items 0 emitted 0 failed 0 live 1234", impl.Pipe{Boxes: boxes(0, 1000, 0, 230, 4, 0)}},
		{"items 0 emitted 0 failed 0 live 300", impl.Pipe{Boxes: boxes(slices.Repeat([]int{1}, 300)...)}},
		{"items 0 emitted 2 failed 1 live 3", impl.Pipe{Boxes: [][]impl.Token{{strange, strange}, nil, {strange}}, Emitted: []impl.Out{{Item: -1, Node: math.MinInt, Value: math.MaxInt}, {}}, Failed: []impl.Lost{{Item: -1, Why: 9}}}},
		{"items 1000000 emitted 100000 failed 50000 live 100000 closed", impl.Pipe{Items: 1000000, Closed: true, Emitted: make([]impl.Out, 100000), Failed: make([]impl.Lost, 50000), Boxes: boxes(100000)}},
	} {
		expectCall(t, impl.ReportText, in(c.p), c.want)
	}
	for text, want := range map[string]string{
		"":                        "items 0 emitted 0 failed 0 live 0",
		"o0=4":                    "items 1 emitted 0 failed 0 live 1",
		"o0=4 s0":                 "items 1 emitted 0 failed 0 live 2",
		"o0=4 s0 s1 d":            "items 1 emitted 1 failed 0 live 1 closed",
		"o0=4 s0 s1 o0=5 a t7":    "items 2 emitted 1 failed 2 live 0 closed",
		"o0=4 s0 f1*4 o0=5 o0=-5": "items 3 emitted 0 failed 1 live 3",
	} {
		p, _, _ := impl.PlayPipe(staged("1 -", expandBy(2, 1)), moves(text))
		expectCall(t, impl.ReportText, in(p), want)
	}
}
