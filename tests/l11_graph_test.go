package tests

import (
	"math"
	"slices"
	"strconv"
	"strings"
	"testing"

	"loop.example/g00145/impl"
)

// leading is a node with a stage that leads to others; graph gives it its Name, by its place, and a Cap.
func leading(s impl.Stage, next ...int) impl.Node {
	return impl.Node{Stage: s, Next: next}
}

func graph(nodes ...impl.Node) []impl.Node {
	g := slices.Clone(nodes)
	for k := range g {
		g[k].Name, g[k].Cap = strings.Repeat(string(rune('a'+k%26)), 1+k/26), 3+k%6
	}
	return g
}

// shape is a graph whose nodes lead to those that the words name, a digit each; - is an end.
func shape(text string) []impl.Node {
	var nodes []impl.Node
	for _, word := range strings.Fields(text) {
		n := leading(mapBy(1, 0))
		for _, digit := range strings.Trim(word, "-") {
			n.Next = append(n.Next, int(digit-'0'))
		}
		nodes = append(nodes, n)
	}
	return graph(nodes...)
}

// widening is a shape in which each node makes as many of a value as its digit says, each by step more than the one ahead.
func widening(factors string, step int, text string) []impl.Node {
	g := shape(text)
	for k, digit := range factors {
		g[k].Stage = expandBy(int(digit-'0'), step)
	}
	return g
}

// emits are told as a row of Node and Value in turn.
func emits(row ...int) []impl.Emit {
	var l []impl.Emit
	for k := 0; k < len(row); k += 2 {
		l = append(l, impl.Emit{Node: row[k], Value: row[k+1]})
	}
	return l
}

// changedNode is the graph with one node changed; the others share no list with it.
func changedNode(g []impl.Node, node int, change func(n *impl.Node)) []impl.Node {
	g = slices.Clone(g)
	g[node].Next = slices.Clone(g[node].Next)
	change(&g[node])
	return g
}

const tenInARow = "1 2 3 4 5 6 7 8 9 -"
const tenAll = "123456789 23456789 3456789 456789 56789 6789 789 89 9 -"

// exactly400 and oneMore emit that many from their last node; hundredThousand and above have that WidestOf.
func exactly400() []impl.Node      { return widening("233222", 1, "- 0 01 012 0123 410") }
func oneMore() []impl.Node         { return widening("2213331", 1, "- 0 - 012 123 01234 5421") }
func hundredThousand() []impl.Node { return hundredThousandAt(2) }
func above() []impl.Node {
	return widening("3333323332", 1, "- 0 01 12 23 01234 012345 0123456 156 875421")
}

func hundredThousandAt(last int) []impl.Node {
	return widening("233332233"+strconv.Itoa(last), 1, "- 0 01 012 023 01234 0235 123456 012357 876210")
}

func TestGraphConstants(t *testing.T) {
	got := []int{impl.MaxNodes, impl.MaxCap, impl.MaxOut, impl.GraphOk, impl.GraphMany, impl.GraphName, impl.GraphTwice,
		impl.GraphStage, impl.GraphCap, impl.GraphEdge, impl.GraphCycle}
	if want := []int{10, 8, 400, 0, 1, 2, 3, 4, 5, 6, 7}; !slices.Equal(got, want) {
		t.Error(got, want)
	}
}

func goodGraphs() map[string][]impl.Node {
	rename := func(names ...string) []impl.Node {
		g := shape("1 2 -")
		for k, name := range names {
			g[k].Name = name
		}
		return g
	}
	all := map[string][]impl.Node{
		"1 node":                       shape("-"),
		"2 ends":                       shape("- -"),
		"2 in a row":                   shape("1 -"),
		"2 against their numbers":      shape("- 0"),
		"3 in a row":                   shape("1 2 -"),
		"9 nodes":                      shape("1 2 3 4 5 6 7 8 -"),
		"10 in a row":                  shape(tenInARow),
		"10 against their numbers":     shape("- 0 1 2 3 4 5 6 7 8"),
		"10 ends":                      shape("- - - - - - - - - -"),
		"10, each to all behind it":    shape(tenAll),
		"10, each to all ahead of it":  shape("- 0 01 012 0123 01234 012345 0123456 01234567 012345678"),
		"one to nine":                  shape("123456789 - - - - - - - - -"),
		"nine to one":                  shape("- 0 0 0 0 0 0 0 0 0"),
		"reached in two ways":          shape("12 3 3 -"),
		"reached in two ways, shorter": shape("12 2 -"),
		"reached in three ways":        shape("4 4 4 - 3"),
		"Next that does not rise":      shape("321 - - -"),
		"the same Next in two nodes":   shape("2 2 -"),
		"two graphs in one":            shape("2 3 - -"),
		"the shortest Names":           rename("a", "z", "A"),
		"the shortest Names, again":    rename("Z", "b", "Y"),
		"the longest Names":            rename("abcdefghijkl", "ABCDEFGHIJKL", "mnopqrstuvwx"),
		"Names that differ in the end": rename("aaaaaaaaaaaa", "aaaaaaaaaaab", "aaaaaaaaaaa"),
		"Names that differ in a case":  rename("ab", "aB", "Ab"),
		"a Name that begins another":   rename("a", "aa", "aaa"),
		"exactly 400":                  exactly400(),
		"one more":                     oneMore(),
		"widest 100000":                hundredThousand(),
		"wider":                        above(),
		"the widest of all":            widening("3333333333", 1, tenAll),
		"the empty list":               changedNode(shape("1 -"), 1, func(n *impl.Node) { n.Next = []int{} }),
	}
	for _, size := range []int{3, 4, 7, 8} {
		all["Cap "+strconv.Itoa(size)] = changedNode(shape("1 2 -"), 1, func(n *impl.Node) { n.Cap = size })
	}
	return all
}

func TestGoodGraphs(t *testing.T) {
	for name, g := range goodGraphs() {
		t.Run(name, func(t *testing.T) {
			expectCall(t, impl.CheckGraph, in(g), impl.GraphOk)
			expectGraphModel(t, g, []int{0, len(g) / 2, len(g) - 1}, []int{7, -8}, map[string]int{})
		})
	}
	for _, s := range goodStages() {
		for node := range 3 {
			expectCall(t, impl.CheckGraph, in(changedNode(shape("1 2 -"), node, func(n *impl.Node) { n.Stage = s })), impl.GraphOk)
		}
	}
}

// badNames are none, each in a way of its own.
func badNames() map[string]string {
	return map[string]string{
		"no letter":               "",
		"13 letters":              "abcdefghijklm",
		"13 great letters":        "ABCDEFGHIJKLM",
		"far too many":            strings.Repeat("a", 5000),
		"a digit":                 "1",
		"a digit behind":          "a1",
		"a digit ahead":           "1a",
		"0 in the midst":          "a0a",
		"a blank":                 " ",
		"a blank behind":          "ab ",
		"a blank ahead":           " ab",
		"a blank between":         "a b",
		"a line's end":            "ab\n",
		"a byte 0":                "a\x00",
		"a line":                  "a_b",
		"a stroke":                "a-b",
		"a dot":                   "a.b",
		"a comma":                 "a,b",
		"the byte ahead of A":     "@",
		"the byte behind Z":       "[",
		"the byte ahead of a":     "`",
		"the byte behind z":       "{",
		"the byte 127":            "a\x7f",
		"the byte 128":            "a\x80",
		"the byte 255":            "\xff",
		"a letter of two bytes":   "\u00e4",
		"a letter of three bytes": "a\uff21b",
		"another alphabet":        "\u0430",
		"12, the last is none":    "abcdefghijk1",
		"12, the first is none":   "-bcdefghijkl",
		"12 runes, 24 bytes":      strings.Repeat("\u00e4", 12),
		"6 runes, 12 bytes":       strings.Repeat("\u00e4", 6),
	}
}

// badGraph is one with the code that it should tell.
type badGraph struct {
	g    []impl.Node
	code int
}

func badNextLists() map[string][]int {
	return map[string][]int{
		"-1":                       {-1},
		"one more":                 {3},
		"far more":                 {10},
		"the least int":            {math.MinInt},
		"the greatest int":         {math.MaxInt},
		"2 and -1":                 {2, -1},
		"2 and one more":           {2, 3},
		"one more and 2":           {3, 2},
		"2 twice":                  {2, 2},
		"the same twice, apart":    {0, 1, 0},
		"three times":              {2, 2, 2},
		"more than there are":      {0, 1, 2, 0},
		"far more than there are":  slices.Repeat([]int{2}, 3000),
		"far more, no two alike":   countUp(0, 3000),
		"none of them, many times": slices.Repeat([]int{-1}, 3000),
		"-1 twice":                 {-1, -1},
	}
}

func badGraphs() map[string]badGraph {
	all := map[string]badGraph{
		"no nodes":                 {nil, impl.GraphMany},
		"the empty list":           {[]impl.Node{}, impl.GraphMany},
		"11 ends":                  {shape("- - - - - - - - - - -"), impl.GraphMany},
		"11 in a row":              {graph(append(shape(tenInARow), leading(mapBy(1, 0), 0))...), impl.GraphMany},
		"11 nodes of nothing":      {make([]impl.Node, 11), impl.GraphMany},
		"10 nodes of nothing":      {make([]impl.Node, 10), impl.GraphName},
		"1 node of nothing":        {make([]impl.Node, 1), impl.GraphName},
		"far too many":             {graph(make([]impl.Node, 300)...), impl.GraphMany},
		"to itself, alone":         {shape("0"), impl.GraphCycle},
		"to itself, the first":     {shape("01 2 -"), impl.GraphCycle},
		"to itself, the last":      {shape("1 2 2"), impl.GraphCycle},
		"to itself, led to":        {shape("1 12 -"), impl.GraphCycle},
		"to itself, beside others": {shape("1 - 2"), impl.GraphCycle},
		"two to each other":        {shape("1 0"), impl.GraphCycle},
		"two, led into":            {shape("1 2 1"), impl.GraphCycle},
		"two, led out of":          {shape("1 02 -"), impl.GraphCycle},
		"three":                    {shape("1 2 0"), impl.GraphCycle},
		"three, the other way":     {shape("2 0 1"), impl.GraphCycle},
		"no source leads in":       {shape("1 - 3 4 2"), impl.GraphCycle},
		"no source at all":         {shape("1 0 3 2"), impl.GraphCycle},
		"ten":                      {shape("1 2 3 4 5 6 7 8 9 0"), impl.GraphCycle},
		"ten, back to the ninth":   {shape("1 2 3 4 5 6 7 8 9 8"), impl.GraphCycle},
		"all to all":               {shape("12 02 01"), impl.GraphCycle},
		"two ways and a round":     {shape("12 3 3 0"), impl.GraphCycle},
		"a round between":          {shape("1 2 13 -"), impl.GraphCycle},
	}
	three := shape("1 2 -")
	for node := range three {
		at := " at " + strconv.Itoa(node)
		add := func(name string, code int, change func(n *impl.Node)) {
			all[name+at] = badGraph{changedNode(three, node, change), code}
		}
		for name, text := range badNames() {
			add("Name "+name, impl.GraphName, func(n *impl.Node) { n.Name = text })
		}
		for k := range three {
			if k != node {
				add("Name of "+strconv.Itoa(k), impl.GraphTwice, func(n *impl.Node) { n.Name = three[k].Name })
			}
		}
		for k, s := range badStages() {
			add("stage "+strconv.Itoa(k), impl.GraphStage, func(n *impl.Node) { n.Stage = s })
		}
		for _, size := range []int{math.MinInt, -3, -1, 0, 1, 2, 9, 10, math.MaxInt} {
			add("Cap "+strconv.Itoa(size), impl.GraphCap, func(n *impl.Node) { n.Cap = size })
		}
		for name, next := range badNextLists() {
			add("Next "+name, impl.GraphEdge, func(n *impl.Node) { n.Next = next })
		}
	}
	ten := shape(tenAll)
	all["one Name, far apart"] = badGraph{changedNode(ten, 9, func(n *impl.Node) { n.Name = "a" }), impl.GraphTwice}
	all["one Name, next to each other"] = badGraph{changedNode(ten, 5, func(n *impl.Node) { n.Name = "e" }), impl.GraphTwice}
	all["the last of ten to one more"] = badGraph{changedNode(ten, 9, func(n *impl.Node) { n.Next = []int{10} }), impl.GraphEdge}
	all["the last of ten to the first"] = badGraph{changedNode(ten, 9, func(n *impl.Node) { n.Next = []int{0} }), impl.GraphCycle}
	all["the last of ten to itself"] = badGraph{changedNode(ten, 9, func(n *impl.Node) { n.Next = []int{9} }), impl.GraphCycle}
	return all
}

func TestBadGraphs(t *testing.T) {
	for name, bad := range badGraphs() {
		t.Run(name, func(t *testing.T) {
			expectCall(t, impl.CheckGraph, in(bad.g), bad.code)
			expectCall(t, impl.OrderOf, in(bad.g), []int{}, false)
			expectCall(t, impl.SourcesOf, in(bad.g), []int{}, false)
			expectCall(t, impl.RoomOf, in(bad.g), 0, false)
			expectCall(t, impl.WidestOf, in(bad.g), 0, false)
			for _, node := range []int{-1, 0, len(bad.g) - 1, len(bad.g)} {
				expectCall(t, impl.MeaningOf, in(bad.g, node, 7), []impl.Emit{}, false)
			}
		})
	}
}

// spoils make one fault each at a node and leave all others that are there as they are, a Name's but for its own.
func spoils() map[int]func(g []impl.Node, node int) {
	return map[int]func(g []impl.Node, node int){
		impl.GraphName:  func(g []impl.Node, node int) { g[node].Name = "a b" },
		impl.GraphTwice: func(g []impl.Node, node int) { g[node].Name = g[(node+2)%len(g)].Name },
		impl.GraphStage: func(g []impl.Node, node int) { g[node].Stage.Kind = 5 },
		impl.GraphCap:   func(g []impl.Node, node int) { g[node].Cap = 9 },
		impl.GraphEdge:  func(g []impl.Node, node int) { g[node].Next = append(slices.Clone(g[node].Next), len(g)) },
		impl.GraphCycle: func(g []impl.Node, node int) { g[node].Next = append(slices.Clone(g[node].Next), node) },
	}
}

// The codes stand in an order, and each is asked over the whole graph: of all that meet the least one counts, wherever it is.
func TestFaultsThatMeet(t *testing.T) {
	for which := range 1 << 6 {
		for first := range 4 {
			for apart := range 4 {
				g, least := shape("12 3 3 -"), 0
				for code := impl.GraphCycle; code >= impl.GraphName; code-- {
					if which>>(code-impl.GraphName)&1 == 1 {
						spoils()[code](g, (first+apart*code)%4)
						least = code
					}
				}
				expectCall(t, impl.CheckGraph, in(g), least)
				many := slices.Concat(g, g, g)
				expectCall(t, impl.CheckGraph, in(many), impl.GraphMany)
			}
		}
	}
}

func TestOrderOf(t *testing.T) {
	for name, c := range map[string]struct {
		text  string
		order []int
	}{
		"one":                             {"-", []int{0}},
		"no edges":                        {"- - - - -", []int{0, 1, 2, 3, 4}},
		"ten, no edges":                   {"- - - - - - - - - -", countUp(0, 10)},
		"in a row":                        {"1 2 3 -", []int{0, 1, 2, 3}},
		"ten in a row":                    {tenInARow, countUp(0, 10)},
		"against the numbers":             {"- 0 1 2", []int{3, 2, 1, 0}},
		"ten against the numbers":         {"- 0 1 2 3 4 5 6 7 8", []int{9, 8, 7, 6, 5, 4, 3, 2, 1, 0}},
		"ten, each to all ahead of it":    {"- 0 01 012 0123 01234 012345 0123456 01234567 012345678", []int{9, 8, 7, 6, 5, 4, 3, 2, 1, 0}},
		"reached in two ways":             {"12 3 3 -", []int{0, 1, 2, 3}},
		"reached in two ways, against":    {"- 0 0 12", []int{3, 1, 2, 0}},
		"the last leads to the first":     {"- - - 0", []int{1, 2, 3, 0}},
		"the least that came free is it":  {"- 0 -", []int{1, 0, 2}},
		"free, then one that was waiting": {"- - - 1 0", []int{2, 3, 1, 4, 0}},
		"a lesser one comes free later":   {"- 3 0 -", []int{1, 2, 0, 3}},
		"not the first that came free":    {"34 - 1 - -", []int{0, 2, 1, 3, 4}},
		"not depth first":                 {"2 3 - -", []int{0, 1, 2, 3}},
		"not layer by layer":              {"1 2 - 4 -", []int{0, 1, 2, 3, 4}},
		"Next that does not rise":         {"321 - - -", []int{0, 1, 2, 3}},
		"the ends are the least":          {"- - 01 01", []int{2, 3, 0, 1}},
		"zigzag":                          {"5 0 5 1 2 -", []int{3, 1, 0, 4, 2, 5}},
		"two rows, woven":                 {"2 3 4 5 - -", []int{0, 1, 2, 3, 4, 5}},
		"two rows, one against":           {"2 - 4 1 - 3", []int{0, 2, 4, 5, 3, 1}},
		"the greatest leads to all":       {"- - - - 0123", []int{4, 0, 1, 2, 3}},
		"waits for the last of two":       {"- 0 - 0", []int{1, 2, 3, 0}},
	} {
		t.Run(name, func(t *testing.T) { expectCall(t, impl.OrderOf, in(shape(c.text)), c.order, true) })
	}
}

func TestSourcesOf(t *testing.T) {
	for name, c := range map[string]struct {
		text    string
		sources []int
	}{
		"one":                         {"-", []int{0}},
		"all":                         {"- - - -", []int{0, 1, 2, 3}},
		"all of ten":                  {"- - - - - - - - - -", countUp(0, 10)},
		"the first":                   {"1 2 3 -", []int{0}},
		"the last":                    {"- 0 1 2", []int{3}},
		"the first of ten":            {tenAll, []int{0}},
		"one in the midst":            {"- 02 -", []int{1}},
		"rising, whatever the Next":   {"- - - - 0 1", []int{2, 3, 4, 5}},
		"ahead of and behind its end": {"1 - 1 -", []int{0, 2, 3}},
		"all but one":                 {"3 3 3 - 3", []int{0, 1, 2, 4}},
		"reached in two ways":         {"12 3 3 -", []int{0}},
		"two graphs":                  {"- 0 3 -", []int{1, 2}},
		"behind those they lead to":   {"- 3 0 -", []int{1, 2}},
	} {
		t.Run(name, func(t *testing.T) { expectCall(t, impl.SourcesOf, in(shape(c.text)), c.sources, true) })
	}
}

func TestRoomOf(t *testing.T) {
	for _, size := range []int{3, 4, 5, 6, 7, 8} {
		for _, text := range []string{"-", "1 -", "1 2 -", tenInARow} {
			g := shape(text)
			for k := range g {
				g[k].Cap = size
			}
			expectCall(t, impl.RoomOf, in(g), size*len(g), true)
		}
	}
	expectCall(t, impl.RoomOf, in(shape("- - - - - -")), 3+4+5+6+7+8, true)
	expectCall(t, impl.RoomOf, in(shape(tenInARow)), 3+4+5+6+7+8+3+4+5+6, true)
}

func TestWidestOf(t *testing.T) {
	for name, c := range map[string]struct {
		g      []impl.Node
		widest int
	}{
		"an end, factor 1":             {widening("1", 0, "-"), 1},
		"an end, factor 2":             {widening("2", 0, "-"), 2},
		"an end, factor 3":             {widening("3", 0, "-"), 3},
		"an end that maps":             {graph(leading(mapBy(100, 0))), 1},
		"an end that filters":          {graph(leading(filterBy(1000, 999))), 1},
		"an end that is poison":        {graph(leading(poisonBy(1, 0))), 1},
		"ends alone":                   {widening("121", 0, "- - -"), 2},
		"ends alone, the last":         {widening("123", 0, "- - -"), 3},
		"ends alone, the first":        {widening("312", 0, "- - -"), 3},
		"a chain":                      {widening("23", 0, "1 -"), 6},
		"a chain against the numbers":  {widening("23", 0, "- 0"), 6},
		"a chain of ten, factor 1":     {widening("1111111111", 0, tenInARow), 1},
		"a chain of ten, factor 2":     {widening("2222222222", 0, tenInARow), 1024},
		"a chain of ten, factor 3":     {widening("3333333333", 0, tenInARow), 59049},
		"a chain that filters":         {graph(leading(expandBy(3, 0), 1), leading(filterBy(9, 8), 2), leading(expandBy(2, 0))), 6},
		"one to nine":                  {widening("1111111111", 0, "123456789 - - - - - - - - -"), 9},
		"one to nine, all 3":           {widening("3333333333", 0, "123456789 - - - - - - - - -"), 81},
		"nine to one":                  {widening("3333333333", 0, "- 0 0 0 0 0 0 0 0 0"), 9},
		"reached in two ways":          {shape("12 3 3 -"), 2},
		"two ways, of which one wider": {widening("2132", 0, "12 3 3 -"), 2 * (1*2 + 3*2)},
		"a longer and a shorter way":   {shape("12 2 -"), 2},
		"two times two ways":           {shape("12 3 3 45 6 6 -"), 4},
		"one behind and one beside":    {widening("112", 0, "1 - -"), 2},
		"the widest is not the source": {widening("3111", 0, "- 2 - -"), 3},
		"all to all, factor 1":         {shape(tenAll), 256},
		"all to all, factor 2":         {widening("2222222222", 0, tenAll), 4 * 6561},
		"all to all, factor 3":         {widening("3333333333", 0, tenAll), 9 * 65536},
		"400":                          {exactly400(), 400},
		"401":                          {oneMore(), 401},
		"100000":                       {hundredThousand(), 100000},
		"100002":                       {above(), 100002},
		"150000":                       {hundredThousandAt(3), 150000},
	} {
		t.Run(name, func(t *testing.T) { expectCall(t, impl.WidestOf, in(c.g), c.widest, true) })
	}
}

func TestMeaningOf(t *testing.T) {
	two := func(s impl.Stage) []impl.Node { return graph(leading(s, 1), leading(mapBy(1, 0))) }
	fork := func(s impl.Stage) []impl.Node {
		return graph(leading(s, 2, 1), leading(mapBy(1, 5)), leading(mapBy(-1, 0)))
	}
	for name, c := range map[string]struct {
		g    []impl.Node
		node int
		v    int
		want []impl.Emit
	}{
		"an end that maps":                   {graph(leading(mapBy(2, 3))), 0, 5, emits(0, 13)},
		"an end that filters, kept":          {graph(leading(filterBy(3, 1))), 0, 7, emits(0, 7)},
		"an end that filters, gone":          {graph(leading(filterBy(3, 1))), 0, 6, nil},
		"an end that expands":                {graph(leading(expandBy(3, 4))), 0, 5, emits(0, 5, 0, 9, 0, 13)},
		"an end that expands, downwards":     {graph(leading(expandBy(3, -4))), 0, 5, emits(0, -3, 0, 1, 0, 5)},
		"an end that expands to the same":    {graph(leading(expandBy(3, 0))), 0, 5, emits(0, 5, 0, 5, 0, 5)},
		"an end that is poison, met":         {graph(leading(poisonBy(3, 1))), 0, 7, emits(0, 7)},
		"an end that is poison, not met":     {graph(leading(poisonBy(3, 1))), 0, 6, emits(0, 6)},
		"poison of all values":               {graph(leading(poisonBy(1, 0))), 0, -6, emits(0, -6)},
		"mapped ahead of an end":             {two(mapBy(2, 3)), 0, 5, emits(1, 13)},
		"filtered ahead, kept":               {two(filterBy(3, 1)), 0, 7, emits(1, 7)},
		"filtered ahead, gone":               {two(filterBy(3, 1)), 0, 6, nil},
		"expanded ahead of an end":           {two(expandBy(3, 4)), 0, 5, emits(1, 5, 1, 9, 1, 13)},
		"poison ahead, met":                  {two(poisonBy(3, 1)), 0, 7, emits(1, 7)},
		"poison ahead, not met":              {two(poisonBy(3, 1)), 0, 6, emits(1, 6)},
		"begun at the end":                   {two(mapBy(2, 3)), 1, 5, emits(1, 5)},
		"mapped to two ends":                 {fork(mapBy(2, 3)), 0, 5, emits(1, 18, 2, -13)},
		"filtered to two ends, kept":         {fork(filterBy(3, 1)), 0, 7, emits(1, 12, 2, -7)},
		"filtered to two ends, gone":         {fork(filterBy(3, 1)), 0, 6, nil},
		"expanded to two ends":               {fork(expandBy(2, 4)), 0, 5, emits(1, 10, 1, 14, 2, -9, 2, -5)},
		"poison to two ends, met":            {fork(poisonBy(3, 1)), 0, 7, emits(1, 12, 2, -7)},
		"one way to an end, one to nowhere":  {graph(leading(mapBy(1, 0), 1, 2), leading(filterBy(2, 1)), leading(filterBy(2, 0))), 0, 4, emits(2, 4)},
		"some of many met by poison":         {graph(leading(expandBy(3, 1), 1), leading(poisonBy(2, 0), 2), leading(mapBy(10, 0))), 0, 4, emits(2, 40, 2, 50, 2, 60)},
		"poison behind poison":               {graph(leading(poisonBy(1, 0), 1), leading(poisonBy(1, 0), 2), leading(poisonBy(2, 1))), 0, 5, emits(2, 5)},
		"reached in two ways":                {shape("12 3 3 -"), 0, 5, emits(3, 5, 3, 5)},
		"reached in two ways, differently":   {graph(leading(mapBy(1, 0), 1, 2), leading(mapBy(3, 0), 3), leading(mapBy(2, 0), 3), leading(mapBy(1, 1))), 0, 5, emits(3, 11, 3, 16)},
		"a longer and a shorter way":         {graph(leading(mapBy(1, 1), 1, 2), leading(mapBy(10, 0), 2), leading(mapBy(1, 0))), 0, 5, emits(2, 6, 2, 60)},
		"one of two ways filtered":           {graph(leading(mapBy(1, 0), 1, 2), leading(filterBy(2, 0), 3), leading(filterBy(2, 1), 3), leading(mapBy(1, 0))), 0, 5, emits(3, 5)},
		"begun in the midst":                 {shape("12 3 3 -"), 1, 5, emits(3, 5)},
		"against the numbers":                {graph(leading(mapBy(1, 1)), leading(mapBy(1, 10), 0), leading(mapBy(2, 0), 1)), 2, 5, emits(0, 21)},
		"what lies beside counts not":        {graph(leading(mapBy(1, 1)), leading(mapBy(1, 10)), leading(mapBy(2, 0))), 1, 5, emits(1, 15)},
		"sorted by Node, not by Value":       {graph(leading(mapBy(1, 0), 3, 2, 1), leading(mapBy(0, 9)), leading(mapBy(0, -9)), leading(mapBy(0, 0))), 0, 5, emits(1, 9, 2, -9, 3, 0)},
		"sorted by Value in a Node":          {graph(leading(expandBy(3, -1), 1), leading(expandBy(2, -10))), 0, 5, emits(1, -7, 1, -6, 1, -5, 1, 3, 1, 4, 1, 5)},
		"cut at the greatest value":          {two(mapBy(100, 0)), 0, 10001, emits(1, 1000000)},
		"cut at the least value":             {two(mapBy(100, 0)), 0, -10001, emits(1, -1000000)},
		"cut between":                        {graph(leading(mapBy(2, 0), 1), leading(mapBy(1, -1000000))), 0, 600000, emits(1, 0)},
		"the greatest value at an end":       {shape("-"), 0, 1000000, emits(0, 1000000)},
		"the least value at an end":          {shape("-"), 0, -1000000, emits(0, -1000000)},
		"the greatest value ahead of ends":   {shape("12 - -"), 0, 1000000, emits(1, 1000000, 2, 1000000)},
		"the least value ahead of ends":      {shape("12 - -"), 0, -1000000, emits(1, -1000000, 2, -1000000)},
		"expanded at the greatest value":     {graph(leading(expandBy(3, 1000))), 0, 999000, emits(0, 999000, 0, 1000000, 0, 1000000)},
		"the empty Next is an end":           {changedNode(shape("1 -"), 1, func(n *impl.Node) { n.Next = []int{} }), 0, 4, emits(1, 4)},
		"ten in a row, the first":            {shape(tenInARow), 0, 4, emits(9, 4)},
		"ten in a row, the last":             {shape(tenInARow), 9, 4, emits(9, 4)},
		"widest 100000, an end":              {hundredThousand(), 0, 4, emits(0, 4, 0, 5)},
		"widest 100000, one ahead of it":     {hundredThousand(), 1, 4, emits(0, 4, 0, 5, 0, 5, 0, 6, 0, 6, 0, 7)},
		"all of many values the same":        {widening("3333", 0, "1 2 3 -"), 0, 4, slices.Repeat(emits(3, 4), 81)},
		"256 ways":                           {shape(tenAll), 0, 4, slices.Repeat(emits(9, 4), 256)},
		"729 at most, 243 through filters":   {graph(leading(expandBy(3, 1), 1), leading(filterBy(3, 0), 2), leading(expandBy(3, 0), 3), leading(expandBy(3, 0), 4), leading(expandBy(3, 0), 5), leading(expandBy(3, 0), 6), leading(expandBy(3, 0))), 0, 3, slices.Repeat(emits(6, 3), 243)},
		"more than MaxOut ahead of a filter": {graph(leading(expandBy(3, 1), 1), leading(expandBy(3, 3), 2), leading(expandBy(3, 9), 3), leading(expandBy(3, 27), 4), leading(expandBy(3, 81), 5), leading(expandBy(3, 243), 6), leading(filterBy(1000, 728))), 0, 0, emits(6, 728)},
		"more than MaxOut, and nowhere":      {graph(leading(expandBy(3, 1), 1), leading(expandBy(3, 3), 2), leading(expandBy(3, 9), 3), leading(expandBy(3, 27), 4), leading(expandBy(3, 81), 5), leading(expandBy(3, 243), 6), leading(filterBy(1000, 999))), 0, 0, nil},
	} {
		t.Run(name, func(t *testing.T) { expectCall(t, impl.MeaningOf, in(c.g, c.node, c.v), c.want, true) })
	}
}

func TestMeaningAtItsLimits(t *testing.T) {
	met := map[string]int{}
	for _, g := range [][]impl.Node{exactly400(), oneMore(), hundredThousand(), above()} {
		expectGraphModel(t, g, countUp(0, len(g)), []int{-1000000, 0, 3, 999999}, met)
	}
	expectMetAll(t, met, 4, "many", "refused")
	all, ok := impl.MeaningOf(exactly400(), 5, 3)
	if len(all) != 400 || !ok {
		t.Error(len(all), ok)
	}
	expectCall(t, impl.MeaningOf, in(oneMore(), 6, 3), []impl.Emit{}, false)
	// One of the 401 less, by an end that filters.
	less := changedNode(oneMore(), 2, func(n *impl.Node) { n.Stage = filterBy(1000, 999) })
	if all, ok := impl.MeaningOf(less, 6, 3); len(all) == 0 || len(all) >= 400 || !ok {
		t.Error(len(all), ok)
	}
	for node := range 10 {
		expectCall(t, impl.MeaningOf, in(above(), node, 3), []impl.Emit{}, false)
		expectCall(t, impl.MeaningOf, in(hundredThousandAt(3), node, 3), []impl.Emit{}, false)
	}
	for node := 5; node < 10; node++ {
		expectCall(t, impl.MeaningOf, in(hundredThousand(), node, 3), []impl.Emit{}, false)
	}
	// A graph beside that is too wide: nothing in it is told, not even of the end that stands alone.
	alone := widening("3333333331", 1, "12345678 2345678 345678 45678 5678 678 78 8 - -")
	expectCall(t, impl.WidestOf, in(alone), 147456, true)
	expectCall(t, impl.MeaningOf, in(alone, 9, 3), []impl.Emit{}, false)
}

func TestNoMeaning(t *testing.T) {
	for _, g := range [][]impl.Node{shape("-"), shape("1 -"), shape("- 0"), shape("12 3 3 -"), shape(tenInARow), graph(leading(filterBy(2, 1)))} {
		for _, v := range []int{0, 1, 1000001, math.MinInt} {
			for _, node := range []int{math.MinInt, -1, len(g), len(g) + 1, math.MaxInt} {
				expectCall(t, impl.MeaningOf, in(g, node, v), []impl.Emit{}, false)
			}
		}
		for _, v := range []int{math.MinInt, math.MinInt + 1, -1000001, 1000001, math.MaxInt} {
			for node := range g {
				expectCall(t, impl.MeaningOf, in(g, node, v), []impl.Emit{}, false)
			}
		}
	}
}

func TestSortEmits(t *testing.T) {
	least, most := math.MinInt, math.MaxInt
	for name, c := range map[string]struct{ l, want []impl.Emit }{
		"none":                     {nil, nil},
		"the empty list":           {[]impl.Emit{}, nil},
		"one":                      {emits(5, 6), emits(5, 6)},
		"one of nothing":           {emits(0, 0), emits(0, 0)},
		"two in order":             {emits(1, 2, 3, 4), emits(1, 2, 3, 4)},
		"two that change":          {emits(3, 4, 1, 2), emits(1, 2, 3, 4)},
		"Node ahead of Value":      {emits(3, 1, 1, 3), emits(1, 3, 3, 1)},
		"equal Nodes":              {emits(1, 9, 1, 3, 1, 5), emits(1, 3, 1, 5, 1, 9)},
		"equal Values":             {emits(9, 1, 3, 1, 5, 1), emits(3, 1, 5, 1, 9, 1)},
		"both equal":               {emits(2, 2, 1, 1, 2, 2, 1, 1), emits(1, 1, 1, 1, 2, 2, 2, 2)},
		"all equal":                {emits(2, 2, 2, 2, 2, 2), emits(2, 2, 2, 2, 2, 2)},
		"negative":                 {emits(-1, -1, -2, -1, -1, -2, 0, 0, -2, -2), emits(-2, -2, -2, -1, -1, -2, -1, -1, 0, 0)},
		"the least and the most":   {emits(most, least, least, most, most, most, 0, 0, least, least), emits(least, least, least, most, 0, 0, most, least, most, most)},
		"further apart than int":   {emits(most, 0, -2, 0, least, 0, 1, 0), emits(least, 0, -2, 0, 1, 0, most, 0)},
		"Values so far apart":      {emits(7, most, 7, -2, 7, least, 7, 1), emits(7, least, 7, -2, 7, 1, 7, most)},
		"a Value below its Node":   {emits(5, 0, 0, 5), emits(0, 5, 5, 0)},
		"a Node that is no number": {emits(11, 1, 10, 2000000), emits(10, 2000000, 11, 1)},
	} {
		t.Run(name, func(t *testing.T) { expectCall(t, impl.SortEmits, in(c.l), c.want, true) })
	}
	for _, many := range []int{399, 400} {
		var l, want []impl.Emit
		for k := range many {
			l = append(l, impl.Emit{Node: (many - k) / 7, Value: -k})
			want = append(want, impl.Emit{Node: (k + 1) / 7})
		}
		// Within one Node the Values fall in l by one each: the last of them is the least.
		for k := range want {
			want[k].Value = l[many-1-k].Value
		}
		expectCall(t, impl.SortEmits, in(l), want, true)
	}
	for _, many := range []int{401, 402, 800, 5000} {
		expectCall(t, impl.SortEmits, in(make([]impl.Emit, many)), []impl.Emit{}, false)
		expectCall(t, impl.SortEmits, in(slices.Repeat(emits(3, 4, 1, 2), many)), []impl.Emit{}, false)
	}
}

// expectGraphModel asks all functions of one graph, guarded, and holds them against the model.
func expectGraphModel(t *testing.T, g []impl.Node, nodes, values []int, met map[string]int) {
	t.Helper()
	expectCall(t, impl.CheckGraph, in(g), modelCheckGraph(g))
	order, ok := modelOrderOf(g)
	expectCall(t, impl.OrderOf, in(g), order, ok)
	sources, ok := modelSourcesOf(g)
	expectCall(t, impl.SourcesOf, in(g), sources, ok)
	room, ok := modelRoomOf(g)
	expectCall(t, impl.RoomOf, in(g), room, ok)
	widest, ok := modelWidestOf(g)
	expectCall(t, impl.WidestOf, in(g), widest, ok)
	met["code "+strconv.Itoa(modelCheckGraph(g))]++
	for _, node := range nodes {
		for _, v := range values {
			meaning, ok := modelMeaningOf(g, node, v)
			expectCall(t, impl.MeaningOf, in(g, node, v), meaning, ok)
			switch {
			case !ok:
				met["refused"]++
			case len(meaning) == 0:
				met["nothing"]++
			case len(meaning) == 1:
				met["one"]++
			default:
				met["many"]++
			}
		}
	}
}

// All graphs of up to three nodes, with Nexts that may be and some that may not.
func TestAllSmallGraphs(t *testing.T) {
	met := map[string]int{}
	nexts := lists(nil, []int{0}, []int{1}, []int{2}, []int{0, 1}, []int{1, 2}, []int{2, 0}, []int{1, 1}, []int{3}, []int{-1})
	stages := chain(expandBy(2, 1), filterBy(2, 0), poisonBy(2, 1))
	for _, all := range listsOf(nexts, 3) {
		var nodes []impl.Node
		for k, next := range all {
			nodes = append(nodes, leading(stages[k], next...))
		}
		expectGraphModel(t, graph(nodes...), []int{0, 1, len(nodes) - 1}, []int{1, 2}, met)
	}
	expectMetAll(t, met, 20, "code 0", "code 6", "code 7", "refused", "nothing", "one", "many")
}

// graphOfBits has an edge for each bit.
func graphOfBits(bits, many int) []impl.Node {
	var nodes []impl.Node
	for from := range many {
		n := leading(expandBy(1+from%3, 1))
		for to := range many {
			if bits>>(from*many+to)&1 == 1 {
				n.Next = append(n.Next, to)
			}
		}
		nodes = append(nodes, n)
	}
	return graph(nodes...)
}

// All edges that four nodes may have, without the guards, which would take long over so many.
func TestAllEdgesOfFour(t *testing.T) {
	met := map[int]int{}
	for bits := range 1 << 16 {
		g := graphOfBits(bits, 4)
		code := modelCheckGraph(g)
		met[code]++
		if got := impl.CheckGraph(g); got != code {
			t.Fatalf("%+v: %d, not %d", g, got, code)
		}
		order, ok := impl.OrderOf(g)
		wantOrder, _ := modelOrderOf(g)
		sources, _ := impl.SourcesOf(g)
		wantSources, _ := modelSourcesOf(g)
		widest, _ := impl.WidestOf(g)
		wantWidest, _ := modelWidestOf(g)
		if ok != (code == 0) || !slices.Equal(order, wantOrder) || !slices.Equal(sources, wantSources) || widest != wantWidest {
			t.Fatalf("%+v: %v %v %v %v", g, order, ok, sources, widest)
		}
	}
	// So many graphs of four nodes with names have no round.
	if met[impl.GraphOk] != 543 || met[impl.GraphCycle] != 1<<16-543 {
		t.Error(met)
	}
}

// What nothing is told of is the nil list, whichever came in.
func TestGraphEmptyLists(t *testing.T) {
	for _, l := range [][]impl.Emit{nil, {}, make([]impl.Emit, 0, 5)} {
		if got, ok := impl.SortEmits(l); got != nil || !ok {
			t.Error(got, ok)
		}
	}
	none := graph(leading(filterBy(2, 1)))
	for _, next := range [][]int{nil, {}, make([]int, 0, 5)} {
		none[0].Next = next
		if got, ok := impl.MeaningOf(none, 0, 4); got != nil || !ok {
			t.Error(got, ok)
		}
	}
	for _, g := range [][]impl.Node{nil, {}, shape("0")} {
		order, _ := impl.OrderOf(g)
		sources, _ := impl.SourcesOf(g)
		meaning, _ := impl.MeaningOf(g, 0, 0)
		if order != nil || sources != nil || meaning != nil {
			t.Error(order, sources, meaning)
		}
	}
}

// Nodes whose Next is one list handed in several times, and lists with much behind their lengths.
func TestGraphsOfOneMemory(t *testing.T) {
	next := []int{3, 4, 5, 0, 1, 2}
	stage := expandBy(2, 1)
	g := graph(leading(stage, next[:1]...), leading(stage, next[:2]...), leading(stage, next[:3]...), leading(stage, next[1:1]...), leading(stage), leading(stage, next[6:]...))
	before := plainValues([]any{g, next})
	for range 3 {
		order, ok := impl.OrderOf(g)
		meaning, told := impl.MeaningOf(g, 2, 4)
		if want, _ := modelMeaningOf(g, 2, 4); !ok || !told || !slices.Equal(order, countUp(0, 6)) || !slices.Equal(meaning, want) {
			t.Fatal(order, ok, meaning, told)
		}
		for k := range order {
			order[k] = -99
		}
		for k := range meaning {
			meaning[k] = impl.Emit{Node: -99, Value: -99}
		}
		if !sameValues(before, []any{g, next}) {
			t.Fatalf("written into: %+v", g)
		}
	}
}
