package tests

import (
	"fmt"
	"math"
	"slices"
	"strconv"
	"strings"
	"testing"

	"loop.example/g00145/impl"
)

func TestLineConstants(t *testing.T) {
	if impl.MaxScript != 3000 || impl.MaxLines != 200 {
		t.Error(impl.MaxScript, impl.MaxLines)
	}
}

// named is a node that is none of a graph: it may lead anywhere.
func named(name string, s impl.Stage, size int, next ...int) impl.Node {
	return impl.Node{Name: name, Stage: s, Cap: size, Next: next}
}

// expectText: the node and the text belong to each other, both ways.
func expectText(t *testing.T, n impl.Node, text string) {
	t.Helper()
	expectCall(t, impl.NodeText, in(n), text, true)
	expectCall(t, impl.ReadNode, in(text), n, true)
}

func expectNoText(t *testing.T, n impl.Node) {
	t.Helper()
	expectCall(t, impl.NodeText, in(n), "", false)
	expectNodeModel(t, n)
}

func expectNoNode(t *testing.T, text string) {
	t.Helper()
	expectCall(t, impl.ReadNode, in(text), impl.Node{}, false)
	expectReadModel(t, text)
}

func expectNodeModel(t *testing.T, n impl.Node) bool {
	t.Helper()
	text, ok := modelNodeText(n)
	expectCall(t, impl.NodeText, in(n), text, ok)
	return ok
}

func expectReadModel(t *testing.T, text string) bool {
	t.Helper()
	n, ok := modelReadNode(text)
	expectCall(t, impl.ReadNode, in(text), n, ok)
	return ok
}

func commas(list []int) string {
	var words []string
	for _, n := range list {
		words = append(words, strconv.Itoa(n))
	}
	return strings.Join(words, ",")
}

func nodesByText() map[string]impl.Node {
	twenty := countUp(1, 20)
	long := slices.Repeat([]int{9999999}, 20)
	return map[string]impl.Node{
		"node a map:1:0 3 -":                            named("a", mapBy(1, 0), 3),
		"node b filter:2:1 4 0":                         named("b", filterBy(2, 1), 4, 0),
		"node c expand:3:10 5 1,2":                      named("c", expandBy(3, 10), 5, 1, 2),
		"node d poison:5:4 8 3,2,1":                     named("d", poisonBy(5, 4), 8, 3, 2, 1),
		"node Z map:-100:-1000000 0 0":                  named("Z", mapBy(-100, -1000000), 0, 0),
		"node z map:100:1000000 9999999 9999999":        named("z", mapBy(100, 1000000), 9999999, 9999999),
		"node A map:0:0 1 0,9999999":                    named("A", mapBy(0, 0), 1, 0, 9999999),
		"node node filter:1:0 9 -":                      named("node", filterBy(1, 0), 9),
		"node map map:1:0 3 -":                          named("map", mapBy(1, 0), 3),
		"node abcdefghijkl filter:1000:999 10 10":       named("abcdefghijkl", filterBy(1000, 999), 10, 10),
		"node ABCDEFGHIJKL filter:1000:0 99 99":         named("ABCDEFGHIJKL", filterBy(1000, 0), 99, 99),
		"node mnopqrstuvwx poison:1000:999 1000000 -":   named("mnopqrstuvwx", poisonBy(1000, 999), 1000000),
		"node MNOPQRSTUVWX poison:1:0 1234567 7654321":  named("MNOPQRSTUVWX", poisonBy(1, 0), 1234567, 7654321),
		"node yY expand:1:-1000 3 5,5":                  named("yY", expandBy(1, -1000), 3, 5, 5),
		"node Yy expand:3:1000 3 5,5,5,4,5":             named("Yy", expandBy(3, 1000), 3, 5, 5, 5, 4, 5),
		"node x expand:2:0 3 " + commas(twenty):         named("x", expandBy(2, 0), 3, twenty...),
		"node x expand:2:-1 3 " + commas(twenty[:19]):   named("x", expandBy(2, -1), 3, twenty[:19]...),
		"node abcABCxyzXYZ map:-1:-1 0 " + commas(long): named("abcABCxyzXYZ", mapBy(-1, -1), 0, long...),
	}
}

func TestNodeTexts(t *testing.T) {
	for text, n := range nodesByText() {
		t.Run(text, func(t *testing.T) { expectText(t, n, text) })
	}
	for _, s := range goodStages() {
		word := []string{"", "map", "filter", "expand", "poison"}[s.Kind]
		expectText(t, named("a", s, 3, 1), fmt.Sprintf("node a %s:%d:%d 3 1", word, s.A, s.B))
	}
	// No Next is one value, whichever of the two came in.
	expectCall(t, impl.NodeText, in(impl.Node{Name: "a", Stage: same, Next: []int{}}), "node a map:1:0 0 -", true)
	if n, ok := impl.ReadNode("node a map:1:0 0 -"); n.Next != nil || !ok {
		t.Error(n, ok)
	}
}

// What a graph would refuse has its text none the less: more is not asked here than the chapter says.
func TestNodeTextsThatNoGraphTakes(t *testing.T) {
	for _, size := range []int{0, 1, 2, 3, 8, 9, 10, 99, 100, 999999, 1000000, 9999998, 9999999} {
		expectText(t, named("a", same, size), "node a map:1:0 "+strconv.Itoa(size)+" -")
		expectText(t, named("a", same, 3, size), "node a map:1:0 3 "+strconv.Itoa(size))
		expectText(t, named("a", same, 3, size, size, 0), "node a map:1:0 3 "+commas([]int{size, size, 0}))
	}
}

func TestNodesWithoutText(t *testing.T) {
	for name, text := range badNames() {
		t.Run("Name "+name, func(t *testing.T) { expectNoText(t, named(text, same, 3, 1)) })
	}
	for _, s := range badStages() {
		expectNoText(t, named("a", s, 3, 1))
		expectNoText(t, named("a", s, 3))
	}
	for _, number := range []int{math.MinInt, math.MinInt + 1, -10000000, -9999999, -3, -1, 10000000, 10000001, math.MaxInt - 1, math.MaxInt} {
		expectNoText(t, named("a", same, number))
		expectNoText(t, named("a", same, 3, number))
		expectNoText(t, named("a", same, 3, number, 1))
		expectNoText(t, named("a", same, 3, 1, number))
		expectNoText(t, named("a", same, 3, 1, number, 2))
		expectNoText(t, named("a", same, number, number))
		for place := range 20 {
			next := countUp(0, 20)
			next[place] = number
			expectNoText(t, named("a", same, 3, next...))
		}
	}
	for _, many := range []int{21, 22, 40, 3000} {
		expectNoText(t, named("a", same, 3, countUp(0, many)...))
		expectNoText(t, named("a", same, 3, make([]int, many)...))
	}
	expectNoText(t, impl.Node{})
	expectNoText(t, impl.Node{Name: "a"})
	expectNoText(t, impl.Node{Stage: same})
	// A Name that would lead to the text of another node.
	expectNoText(t, named("a map:1:0 3 -", same, 3))
	expectNoText(t, named("a map:1:0", same, 3))
}

// noNumbers are none in any place; a blank or a mark in some of them makes a text with a part more.
func noNumbers() []string {
	return []string{"", "-", "+", "--", "--1", "+1", "+0", "-0", "00", "-00", "000", "01", "007", "-01", "-007", "0000000", "0000001", "00000001",
		"10000000", "-10000000", "12345678", "-12345678", "99999999", "100000000000", "9223372036854775807", "-9223372036854775808",
		"9223372036854775808", "18446744073709551617", strings.Repeat("9", 400), "1.", "1.0", ".5", "1e3", "1E3", "0x1", "0b1", "0o7", "1_0", "_1", "1-", "1-2",
		"-1-", "a", "1a", "a1", "x", "one", "NaN", "Inf", "nil", "\u0661", "\uff11", "1\uff11", "\u00b2", "\u22121", "\u00e4", "1\u00e4", "\x00", "1\x00", "\x001",
		"\xff", "1\xff", "\xff1", "\xc3", "1\xc3", "\t1", "1\t", "1\r", "\r1", " ", " 1", "1 ", "1 2", "1;2", "'1'", "\"1\"", "(1)", "1/1", "1*1", "/", ":", "1:", ":1", "1:2", "1:2:3"}
}

func TestReadNumbersOfNodes(t *testing.T) {
	const lone = "node a map:1:0 3 %"
	places := []string{"node a map:%:0 3 -", "node a map:1:% 3 -", "node a filter:%:0 3 1", "node a expand:2:% 3 1", "node a map:1:0 % -", "node a map:1:0 % 1,2",
		lone, "node a map:1:0 3 %,1", "node a map:1:0 3 1,%", "node a map:1:0 3 1,%,2"}
	for _, place := range places {
		for _, word := range noNumbers() {
			if place != lone || word != "-" {
				expectNoNode(t, strings.Replace(place, "%", word, 1))
			}
		}
		expectNoNode(t, strings.Replace(place, "%", "1\n", 1))
		expectNoNode(t, strings.Replace(place, "%", "\n1", 1))
		for _, number := range []string{"0", "1", "2", "9", "10", "99", "100", "101", "999", "1000", "1001", "999999", "1000000", "1000001", "1234567", "9999999",
			"-1", "-9", "-10", "-100", "-101", "-1000", "-1001", "-1000000", "-1000001", "-9999999"} {
			expectReadModel(t, strings.Replace(place, "%", number, 1))
		}
	}
	for text, good := range map[string]bool{
		"node a map:100:0 3 -":         true,
		"node a map:101:0 3 -":         false,
		"node a map:-100:0 3 -":        true,
		"node a map:-101:0 3 -":        false,
		"node a map:1:1000000 3 -":     true,
		"node a map:1:1000001 3 -":     false,
		"node a map:1:-1000000 3 -":    true,
		"node a map:1:-1000001 3 -":    false,
		"node a map:1:0 9999999 -":     true,
		"node a map:1:0 10000000 -":    false,
		"node a map:1:0 -1 -":          false,
		"node a map:1:0 3 9999999":     true,
		"node a map:1:0 3 10000000":    false,
		"node a map:1:0 3 -1":          false,
		"node a map:1:0 3 0,0":         true,
		"node a map:1:0 3 0,-1":        false,
		"node a map:1:0 3 0,-0":        false,
		"node a map:1:0 3 1,2,3":       true,
		"node a map:1:0 3 1,2,9999999": true,
	} {
		if _, ok := impl.ReadNode(text); ok != good {
			t.Error(text, ok)
		}
	}
}

func textsOfNoNode() map[string]string {
	all := map[string]string{
		"the empty text":                "",
		"a blank":                       " ",
		"four blanks":                   "    ",
		"far too many blanks":           strings.Repeat(" ", 5000),
		"another first word":            "edge a map:1:0 3 -",
		"the first word, longer":        "nodes a map:1:0 3 -",
		"the first word, shorter":       "nod a map:1:0 3 -",
		"the first word, great":         "NODE a map:1:0 3 -",
		"the first word, one great":     "Node a map:1:0 3 -",
		"the first word is empty":       " a map:1:0 3 -",
		"no first word":                 "a map:1:0 3 -",
		"the first word twice":          "node node a map:1:0 3 -",
		"no Name":                       "node map:1:0 3 -",
		"the Name is empty":             "node  map:1:0 3 -",
		"no stage":                      "node a 3 -",
		"the stage is empty":            "node a  3 -",
		"no Cap":                        "node a map:1:0 -",
		"no Next":                       "node a map:1:0 3",
		"the Next is empty":             "node a map:1:0 3 ",
		"a blank at the beginning":      " node a map:1:0 3 -",
		"a blank at the end":            "node a map:1:0 3 - ",
		"a blank at the end, with Next": "node a map:1:0 3 1 ",
		"two blanks ahead of the Name":  "node  a map:1:0 3 -",
		"two blanks ahead of the stage": "node a  map:1:0 3 -",
		"two blanks ahead of the Cap":   "node a map:1:0  3 -",
		"two blanks ahead of the Next":  "node a map:1:0 3  -",
		"a word more":                   "node a map:1:0 3 - -",
		"a word more, a number":         "node a map:1:0 3 1 2",
		"a Name of two words":           "node a b map:1:0 3 -",
		"a tab":                         "node\ta map:1:0 3 -",
		"tabs":                          "node\ta\tmap:1:0\t3\t-",
		"no blanks at all":              "nodeamap:1:03-",
		"wide blanks":                   "node\u00a0a\u00a0map:1:0\u00a03\u00a0-",
		"a line's end at the end":       "node a map:1:0 3 -\n",
		"a line's end ahead":            "\nnode a map:1:0 3 -",
		"a byte 13 at the end":          "node a map:1:0 3 -\r",
		"a byte 0 at the end":           "node a map:1:0 3 -\x00",
		"a byte 0 ahead":                "\x00node a map:1:0 3 -",
		"a byte 255 at the end":         "node a map:1:0 3 -\xff",
		"a byte 255 in the first word":  "nod\xff a map:1:0 3 -",
		"half a rune":                   "node a\xc3 map:1:0 3 -",
		"a rune that says order":        "\ufeffnode a map:1:0 3 -",
		"the rune for what is none":     "node \ufffd map:1:0 3 -",
		"wide letters":                  "\uff4e\uff4f\uff44\uff45 a map:1:0 3 -",
		"a wide letter in the stage":    "node a m\u00e4p:1:0 3 -",
		"wide colons":                   "node a map\uff1a1\uff1a0 3 -",
		"a wide comma":                  "node a map:1:0 3 1\uff0c2",
		"a wide dash":                   "node a map:1:0 3 \u2013",
		"two nodes":                     "node a map:1:0 3 -\nnode b map:1:0 3 -",
		"far too long":                  "node a map:1:0 3 1" + strings.Repeat(",1", 5000),
		"one too many Next":             "node a map:1:0 3 " + commas(countUp(0, 21)),
		"one too many Next, all alike":  "node a map:1:0 3 " + commas(make([]int, 21)),
	}
	for name, text := range badNames() {
		all["Name "+name] = "node " + text + " map:1:0 3 -"
	}
	for _, word := range []string{"map", "map:", "map:1", "map:1:", "map::0", "map::", "map:::", "map:1::0", "map:1:0:", "map:1:0:0", ":map:1:0", ":1:0", "::", "1:0", "1:1:0", "0:1:0", ":0:0", "none:1:0",
		"map,1,0", "map.1.0", "map-1-0", "map:1,0", "map;1;0", "map:1-0", "map1:0", "map(1:0)", "Map:1:0", "MAP:1:0", "mAp:1:0", "maps:1:0", "ma:1:0", "mapp:1:0", "amap:1:0", "Filter:1:0", "FILTER:1:0", "filte:1:0",
		"Expand:1:0", "EXPAND:1:0", "expan:1:0", "Poison:1:0", "POISON:1:0", "poiso:1:0", "filter", "filter:1", "filter:1:0:0", "expand", "expand:1", "expand:1:0:0", "poison", "poison:1", "poison:1:0:0",
		"filter:0:0", "filter:1:1", "filter:3:3", "filter:3:-1", "filter:-1:0", "filter:1001:0", "filter:1000:1000", "poison:0:0", "poison:1:1", "poison:3:3", "poison:3:-1", "poison:-1:0", "poison:1001:0",
		"poison:1000:1000", "expand:0:0", "expand:4:0", "expand:-1:0", "expand:2:1001", "expand:2:-1001", "map:101:0", "map:-101:0", "map:1:1000001", "map:1:-1000001"} {
		all["stage "+word] = "node a " + word + " 3 -"
	}
	for _, word := range []string{",", ",,", ",1", "1,", "1,,2", ",1,2", "1,2,", "1,2,,3", "-,1", "1,-", "1,-,2", "-,-", "--", "-1", "1-", "1-2", "-,", ",-", "- 1", "1 -", "1, 2", "1 ,2", "1;2", "1:2", "1.2", "[1]", "none", "1,a", "a,1", "1,2,a", "\u2212"} {
		all["Next "+word] = "node a map:1:0 3 " + word
	}
	return all
}

func TestTextsOfNoNode(t *testing.T) {
	for name, text := range textsOfNoNode() {
		t.Run(name, func(t *testing.T) { expectNoNode(t, text) })
	}
}

// Every text that stops early, and every text with one byte less, one more or another one.
func TestTextsNearANode(t *testing.T) {
	met := map[bool]int{}
	for _, text := range []string{"node aZ map:-10:20 3 -", "node b filter:10:9 0 12,0,3", "node cd expand:3:-1 8 1", "node e poison:2:1 9999999 9999999,1"} {
		for at := range len(text) + 1 {
			met[expectReadModel(t, text[:at])]++
			met[expectReadModel(t, text[at:])]++
			for _, b := range []byte(" -,:0159azAZnm\n\r\t\x00+.@[`{/;\x7f\x80\xff") {
				met[expectReadModel(t, text[:at]+string([]byte{b})+text[at:])]++
				if at < len(text) {
					met[expectReadModel(t, text[:at]+string([]byte{b})+text[at+1:])]++
				}
			}
			if at < len(text) {
				met[expectReadModel(t, text[:at]+text[at+1:])]++
			}
		}
	}
	if met[true] < 100 || met[false] < 1000 {
		t.Error("met too seldom:", met)
	}
}
