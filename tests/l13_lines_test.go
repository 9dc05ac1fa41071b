package tests

import (
	"fmt"
	"slices"
	"strconv"
	"strings"
	"testing"

	"loop.example/g00145/impl"
)

// lines has | between its lines, and a byte 10 behind each.
func lines(text string) string {
	return strings.ReplaceAll(text, "|", "\n") + "\n"
}

// nodeLines are those of a graph, with | behind each.
func nodeLines(g []impl.Node) string {
	text := ""
	for _, n := range g {
		line, ok := modelNodeText(n)
		if !ok {
			panic(fmt.Sprintf("%+v has no text", n))
		}
		text += line + "|"
	}
	return text
}

func sayOk(many int) string { return strings.Repeat("ok|", many) }

// expectScript asks RunPipe for the answers, told like lines, and holds all three functions of a script against the model.
func expectScript(t *testing.T, text, answers string) {
	t.Helper()
	expectCall(t, impl.RunPipe, in(lines(text)), lines(answers))
	expectScriptModel(t, lines(text))
}

func expectScriptModel(t *testing.T, text string) {
	t.Helper()
	expectCall(t, impl.RunPipe, in(text), modelRunPipe(text))
	g, ok := modelGraphOfText(text)
	expectCall(t, impl.GraphOfText, in(text), g, ok)
	p, ok := modelLastPipe(text)
	expectCall(t, impl.LastPipe, in(text), p, ok)
}

func expectNoScript(t *testing.T, text string) {
	t.Helper()
	expectCall(t, impl.RunPipe, in(text), "")
	expectCall(t, impl.GraphOfText, in(text), []impl.Node{}, false)
	expectCall(t, impl.LastPipe, in(text), impl.Pipe{}, false)
	expectScriptModel(t, text)
}

// scriptTold is a script and its answers, both told like lines.
type scriptTold struct{ text, answers string }

func expectScripts(t *testing.T, all map[string]scriptTold) {
	t.Helper()
	for name, c := range all {
		t.Run(name, func(t *testing.T) {
			t.Helper()
			expectScript(t, c.text, c.answers)
		})
	}
}

const (
	oneNode   = "node a map:1:0 3 -|"
	twoNodes  = "node a expand:2:1 3 1|node b map:2:0 3 -|"
	noReport  = "items 0 emitted 0 failed 0 live 0"
	poisonEnd = "node a poison:5:0 8 -|"
)

func TestRunPipe(t *testing.T) {
	expectScripts(t, map[string]scriptTold{
		"one node": {oneNode + "offer 0 4|step 0|out|report", "ok|ok|ok|out 0:0:4|items 1 emitted 1 failed 0 live 0"},
		"two nodes": {twoNodes + "offer 0 4|step 0|run|out|mean 0 4|report|fly",
			"ok|ok|ok|ok|steps 2|out 0:1:8 0:1:10|mean 1:8 1:10|items 1 emitted 2 failed 0 live 0 closed|what"},
		"a graph that leads round": {"node a map:1:0 3 0|report", "ok|graph 7"},
		"against the numbers":      {"node a map:1:0 3 -|node b map:3:0 3 0|offer 1 4|step 1|step 0|out", "ok|ok|ok|ok|ok|out 0:0:12"},
		"all that may be said": {"node in expand:2:1 3 1|node out poison:5:0 3 -|offer 0 4|step 0|step 1|step 1|tick 10|fault 1|drain|offer 0 1|report|out|lost|run|report|out|lost|abort|mean 0 4",
			"ok|ok|ok|ok|ok|ok|ok|ok|ok|no 3|items 1 emitted 1 failed 0 live 1 closed|out 0:1:4|lost|steps 2|items 1 emitted 1 failed 1 live 0 closed|out 0:1:4|lost 0:1:5:1|no 3|mean 1:4 1:5"},
	})
}

func TestScriptsOfAnySize(t *testing.T) {
	for name, text := range map[string]string{
		"no line's end":               "report",
		"nodes, no line's end":        "node a map:1:0 3 -",
		"the last one has none":       lines(oneNode+"offer 0 4") + "step 0",
		"the last one is a blank":     lines(oneNode+"offer 0 4") + " ",
		"the last one is a byte 13":   lines(oneNode+"offer 0 4") + "\r",
		"a byte 13 alone":             "\r",
		"a byte 0 alone":              "\x00",
		"201 empty lines":             strings.Repeat("\n", 201),
		"201 lines":                   lines(oneNode + strings.TrimSuffix(strings.Repeat("tick 1|", 200), "|")),
		"201 node lines":              strings.Repeat("node a map:1:0\n", 201),
		"200 lines, and one without":  strings.Repeat("\n", 200) + "x",
		"3001 bytes, 200 lines":       strings.Repeat(strings.Repeat("x", 14)+"\n", 199) + strings.Repeat("x", 15) + "\n",
		"3001 bytes, one line":        strings.Repeat("x", 3000) + "\n",
		"3000 bytes without an end":   strings.Repeat("x", 3000),
		"2999 bytes without an end":   strings.Repeat("x", 2999),
		"3001 bytes, good ahead":      lines(oneNode+"offer 0 4|report") + strings.Repeat("y", 3000-len(lines(oneNode+"offer 0 4|report"))) + "\n",
		"3001 bytes, all lines' ends": strings.Repeat("\n", 3001),
		"far too many":                strings.Repeat("report\n", 5000),
		"1501 runes, 3001 bytes":      strings.Repeat("\u00e4", 1500) + "\n",
	} {
		t.Run(name, func(t *testing.T) { expectNoScript(t, text) })
	}
	expectCall(t, impl.RunPipe, in(""), "")
	expectCall(t, impl.GraphOfText, in(""), []impl.Node{}, true)
	expectCall(t, impl.LastPipe, in(""), impl.Pipe{}, false)
	ticks := lines(oneNode + strings.Repeat("tick 1000|", 198) + "report")
	for name, c := range map[string]struct{ text, answers string }{
		"one empty line":            {"\n", "graph 1\n"},
		"200 empty lines":           {strings.Repeat("\n", 200), strings.Repeat("graph 1\n", 200)},
		"a node, 199 empty lines":   {"node a map:1:0 3 -\n" + strings.Repeat("\n", 199), "ok\n" + strings.Repeat("what\n", 199)},
		"200 lines":                 {ticks, lines("ok|" + sayOk(198) + noReport)},
		"199 lines":                 {ticks[len(lines("node a map:1:0 3 -")):], strings.Repeat("graph 1\n", 199)},
		"3000 bytes, 200 lines":     {strings.Repeat(strings.Repeat("x", 14)+"\n", 200), strings.Repeat("graph 1\n", 200)},
		"3000 bytes, one line":      {strings.Repeat("x", 2999) + "\n", "graph 1\n"},
		"3000 bytes, the last none": {lines(oneNode+"offer 0 4|report") + strings.Repeat("y", 2999-len(lines(oneNode+"offer 0 4|report"))) + "\n", lines("ok|ok|items 1 emitted 0 failed 0 live 1|what")},
		"2999 bytes":                {strings.Repeat("x", 2998) + "\n", "graph 1\n"},
		"200 node lines":            {strings.Repeat("node a map:1:0\n", 200), strings.Repeat("no\n", 200)},
		"a byte 13 in each line":    {"node a map:1:0 3 -\r\nnode a map:1:0 3 -\nreport\r\nreport\n", lines("no|ok|what|" + noReport)},
		"a byte 13 for a line":      {"node a map:1:0 3 -\n\r\n", "ok\nwhat\n"},
		"byte 13, 10 turned":        {"node a map:1:0 3 -\n\rreport\n", "ok\nwhat\n"},
		"bytes that are no letters": {"node a map:1:0 3 -\n\xff\n\x00\n\xc3\n\u00e4\n", lines("ok|what|what|what|what")},
		"half a rune ahead of 10":   {"node a map:1:0 3 -\nreport\xc3\nreport\n", lines("ok|what|" + noReport)},
	} {
		t.Run(name, func(t *testing.T) {
			expectCall(t, impl.RunPipe, in(c.text), c.answers)
			expectScriptModel(t, c.text)
		})
	}
	if p, ok := impl.LastPipe(ticks); p.Tick != 198000 || !ok {
		t.Error(p.Tick, ok)
	}
}

// nodesInARow are lines of so many nodes, each an end, with | behind each.
func nodesInARow(many int) string {
	text := ""
	for k := range many {
		text += "node " + string(rune('a'+k)) + " map:1:0 3 -|"
	}
	return text
}

func TestNodeLines(t *testing.T) {
	expectScripts(t, map[string]scriptTold{
		"one":                       {"node a map:1:0 3 -", "ok"},
		"one that is none":          {"node a map:1:0 3", "no"},
		"the word alone":            {"node", "no"},
		"the word and a blank":      {"node ", "no"},
		"the word and two blanks":   {"node  ", "no"},
		"the word alone, then one":  {"node|node a map:1:0 3 -|report", "no|ok|" + noReport},
		"a longer word begins":      {"node a map:1:0 3 -|nodes|node b map:1:0 3 -", "ok|what|what"},
		"another word begins":       {"node a map:1:0 3 -|nod|node b map:1:0 3 -", "ok|what|what"},
		"a great word begins":       {"node a map:1:0 3 -|Node b map:1:0 3 -|node b map:1:0 3 -", "ok|what|what"},
		"a tab begins":              {"node a map:1:0 3 -|node\tb map:1:0 3 -|node b map:1:0 3 -", "ok|what|what"},
		"a blank ahead begins":      {"node a map:1:0 3 -| node b map:1:0 3 -|node b map:1:0 3 -", "ok|what|what"},
		"an empty line begins":      {"node a map:1:0 3 -||node b map:1:0 3 -|offer 0 1", "ok|what|what|ok"},
		"one that is none, among":   {"node a map:1:0 3 -|node b map:1:0 3 - |node b map:1:0 3 0|offer 1 4|step 1|step 0|out", "ok|no|ok|ok|ok|ok|out 0:0:4"},
		"one that is none, first":   {"node a map:101:0 3 -|node a map:1:0 3 -|offer 0 4", "no|ok|ok"},
		"two in all":                {"node a map:1:0 3 -|node a|node|node b map:1:0 3 -|mean 1 1|mean 2 1", "ok|no|no|ok|mean 1:1|no"},
		"10":                        {nodesInARow(10) + "mean 9 4", sayOk(10) + "mean 9:4"},
		"11":                        {nodesInARow(11) + "mean 9 4|mean 10 4", sayOk(10) + "no|mean 9:4|no"},
		"12":                        {nodesInARow(12) + "mean 9 4|mean 10 4", sayOk(10) + "no|no|mean 9:4|no"},
		"26":                        {nodesInARow(26) + noReport, sayOk(10) + strings.Repeat("no|", 16) + "what"},
		"10, one that is none":      {nodesInARow(5) + "node x|" + nodesInARow(10)[len(nodesInARow(5)):] + "mean 9 4", sayOk(5) + "no|" + sayOk(5) + "mean 9:4"},
		"10, one that is none last": {nodesInARow(10) + "node x|mean 9 4", sayOk(10) + "no|mean 9:4"},
		"11, then none, then one":   {nodesInARow(11) + "node x|node z map:1:0 3 -|mean 9 4", sayOk(10) + "no|no|no|mean 9:4"},
		"behind the first other":    {"node a map:1:0 3 -|report|node b map:1:0 3 -|mean 1 4|mean 0 4|report", "ok|" + noReport + "|what|no|mean 0:4|" + noReport},
		"behind, one that is none":  {"node a map:1:0 3 -|report|node|node |node x", "ok|" + noReport + "|what|what|what"},
	})
}

func TestGraphsOfScripts(t *testing.T) {
	cap9, cap2 := "node a map:1:0 9 -|", "node a map:1:0 2 -|"
	for name, c := range map[string]struct {
		nodes string
		code  int
	}{
		"no node at all":               {"", impl.GraphMany},
		"none that is one":             {"node a|node|node b map:1:0|", impl.GraphMany},
		"one Name twice":               {"node a map:1:0 3 -|node a map:2:0 3 -|", impl.GraphTwice},
		"one Name twice, far apart":    {nodesInARow(9) + "node a map:1:0 3 -|", impl.GraphTwice},
		"a Cap too small":              {cap2, impl.GraphCap},
		"a Cap of 0":                   {"node a map:1:0 0 -|", impl.GraphCap},
		"a Cap too great":              {cap9, impl.GraphCap},
		"a Cap far too great":          {"node a map:1:0 3 1|node b map:1:0 9999999 -|", impl.GraphCap},
		"a Next beyond":                {"node a map:1:0 3 1|", impl.GraphEdge},
		"a Next far beyond":            {"node a map:1:0 3 9999999|", impl.GraphEdge},
		"a Next twice":                 {"node a map:1:0 3 1,1|node b map:1:0 3 -|", impl.GraphEdge},
		"a Next that was too many":     {nodesInARow(9) + "node j map:1:0 3 10|node k map:1:0 3 -|", impl.GraphEdge},
		"a Next that is none":          {"node a map:1:0 3 1|node b map:1:0 3 |", impl.GraphEdge},
		"to itself":                    {"node a map:1:0 3 0|", impl.GraphCycle},
		"two to each other":            {"node a map:1:0 3 1|node b map:1:0 3 0|", impl.GraphCycle},
		"Name ahead of Cap":            {cap9 + cap2, impl.GraphTwice},
		"Cap ahead of edge":            {"node a map:1:0 3 7|node b map:1:0 9 -|", impl.GraphCap},
		"edge ahead of cycle":          {"node a map:1:0 3 0|node b map:1:0 3 7|", impl.GraphEdge},
		"one above MaxOut":             {nodeLines(oneMore()), 8},
		"far above MaxOut":             {nodeLines(widening("3333333333", 1, tenAll)), 8},
		"one above MaxOut, and a node": {nodeLines(append(oneMore(), impl.Node{Name: "z", Stage: same, Cap: 3})), 8},
		"wide, and not good":           {nodeLines(append(oneMore(), impl.Node{Name: "z", Stage: same, Cap: 2})), impl.GraphCap},
		"wide, and round":              {nodeLines(append(oneMore(), impl.Node{Name: "z", Stage: same, Cap: 3, Next: []int{7}})), impl.GraphCycle},
	} {
		t.Run(name, func(t *testing.T) {
			begun, _ := modelGraphOfText(lines(c.nodes))
			if code := impl.CheckGraph(begun); code != c.code && (code != impl.GraphOk || c.code != 8) {
				t.Fatal(code, c.code)
			}
			head := impl.RunPipe(strings.ReplaceAll(c.nodes, "|", "\n"))
			// Whatever the first other line is, and whatever follows it, a node line too.
			for _, first := range []string{"report", "", "offer 0 4", "fly", "run", "mean 0 4", "drain", "nodes", " node b map:1:0 3 -"} {
				rest := first + "|" + "offer 0 4|step 0|fault 0|tick 1|drain|abort|run|report|out|lost|mean 0 4|node z map:1:0 3 -|node|what||graph 1|" + first
				want := slices.Repeat([]string{"graph " + strconv.Itoa(c.code)}, strings.Count(rest, "|")+1)
				expectCall(t, impl.RunPipe, in(lines(c.nodes+rest)), head+lines(strings.Join(want, "|")))
				expectScriptModel(t, lines(c.nodes+rest))
			}
		})
	}
	expectScripts(t, map[string]scriptTold{
		"exactly MaxOut": {nodeLines(exactly400()) + "report|offer 5 3|step 5", sayOk(6) + noReport + "|ok|ok"},
		"ten in a row":   {nodeLines(shape(tenInARow)) + "report|mean 0 3", sayOk(10) + noReport + "|mean 9:3"},
	})
	wide := impl.RunPipe(lines(nodeLines(exactly400()) + "offer 5 3|run|report|mean 5 3|out"))
	if want, _ := impl.MeaningOf(exactly400(), 5, 3); len(want) != 400 || strings.Count(wide, " 0:0:") != 400 || !strings.Contains(wide, "items 1 emitted 400 failed 0 live 0 closed") {
		t.Error(wide)
	}
	expectScriptModel(t, lines(nodeLines(exactly400())+"offer 5 3|offer 5 4|step 5|run|report|mean 5 3|out|lost"))
}

func TestMovesByLines(t *testing.T) {
	expectScripts(t, map[string]scriptTold{
		"offer":                  {oneNode + "offer 0 4|offer 0 0|offer 0 -4|report", "ok|ok|ok|ok|items 3 emitted 0 failed 0 live 3"},
		"offer, the values' end": {oneNode + "offer 0 1000000|offer 0 -1000000|run|out", "ok|ok|ok|steps 2|out 0:0:1000000 1:0:-1000000"},
		"offer, no value":        {oneNode + "offer 0 1000001|offer 0 -1000001|offer 0 9999999|offer 0 -9999999|report", "ok|no 2|no 2|no 2|no 2|" + noReport},
		"offer, no source":       {twoNodes + "offer 1 4|offer 2 4|offer 9999999 4|offer -1 4|offer -9999999 4", "ok|ok|no 2|no 2|no 2|no 2|no 2"},
		"offer, closed":          {oneNode + "drain|offer 0 4|offer 1 4|offer 0 1000001", "ok|ok|no 3|no 2|no 2"},
		"offer, full":            {oneNode + "offer 0 1|offer 0 2|offer 0 3|offer 0 4|offer 0 1000001|step 0|offer 0 5", "ok|ok|ok|ok|no 4|no 2|ok|ok"},
		"offer, closed and full": {oneNode + "offer 0 1|offer 0 2|offer 0 3|drain|offer 0 4", "ok|ok|ok|ok|ok|no 3"},
		"step":                   {twoNodes + "offer 0 4|step 0|step 1|step 1|out", "ok|ok|ok|ok|ok|ok|out 0:1:8 0:1:10"},
		"step, no node":          {twoNodes + "offer 0 4|step 2|step 9999999|step -1|step -9999999|step 0", "ok|ok|ok|no 2|no 2|no 2|no 2|ok"},
		"step, empty":            {twoNodes + "step 0|step 1|offer 0 4|step 1|step 0|step 0", "ok|ok|no 5|no 5|ok|no 5|ok|no 5"},
		"step, blocked":          {twoNodes + "offer 0 4|offer 0 5|step 0|step 0|step 1|step 0", "ok|ok|ok|ok|ok|no 6|ok|ok"},
		"step, it fails":         {poisonEnd + "offer 0 5|step 0|step 0|step 0|report|step 0|lost|step 0", "ok|ok|ok|ok|ok|items 1 emitted 0 failed 0 live 1|ok|lost 0:0:5:1|no 5"},
		"fault":                  {oneNode + "offer 0 4|fault 0|fault 0|fault 0|lost|fault 0|lost|fault 0", "ok|ok|ok|ok|ok|lost|ok|lost 0:0:4:1|no 5"},
		"fault, no node":         {oneNode + "offer 0 4|fault 1|fault 9999999|fault -1|fault -9999999|fault 0", "ok|ok|no 2|no 2|no 2|no 2|ok"},
		"fault, empty":           {twoNodes + "fault 0|fault 1|offer 0 4|fault 1", "ok|ok|no 5|no 5|ok|no 5"},
		"six faults":             {oneNode + "offer 0 4|offer 0 5|offer 0 6|fault 0|fault 0|fault 0|fault 0|fault 0|report|fault 0|report|lost|fault 0", "ok|ok|ok|ok|ok|ok|ok|ok|ok|items 3 emitted 0 failed 1 live 2|ok|items 3 emitted 0 failed 3 live 0 closed|lost 0:0:4:1 1:0:5:2 2:0:6:2|no 5"},
		"six faults, ticks between": {oneNode + "offer 0 4|offer 0 5|offer 0 6|fault 0|fault 0|fault 0|fault 0|fault 0|tick 10|fault 0|report",
			"ok|ok|ok|ok|ok|ok|ok|ok|ok|ok|ok|items 3 emitted 0 failed 1 live 2"},
		"six faults, too few between": {oneNode + "offer 0 4|offer 0 5|offer 0 6|fault 0|fault 0|fault 0|fault 0|fault 0|tick 9|fault 0|report",
			"ok|ok|ok|ok|ok|ok|ok|ok|ok|ok|ok|items 3 emitted 0 failed 3 live 0 closed"},
		"tick":                   {oneNode + "tick 0|tick 1|tick 1000|tick 999", "ok|ok|ok|ok|ok"},
		"tick, too much":         {oneNode + "tick 1001|tick 1000000|tick 9999999", "ok|no 2|no 2|no 2"},
		"tick, below 0":          {oneNode + "tick -1|tick -1000|tick -9999999|tick 5", "ok|no 2|no 2|no 2|ok"},
		"tick, closed":           {oneNode + "drain|tick 5|abort|tick 5", "ok|ok|ok|no 3|ok"},
		"drain":                  {oneNode + "offer 0 4|drain|report|step 0|out|drain", "ok|ok|ok|items 1 emitted 0 failed 0 live 1 closed|ok|out 0:0:4|no 3"},
		"drain, twice":           {oneNode + "drain|drain", "ok|ok|no 3"},
		"drain, behind an abort": {oneNode + "abort|drain", "ok|ok|no 3"},
		"abort":                  {twoNodes + "offer 0 4|offer 0 5|step 0|abort|report|lost|abort", "ok|ok|ok|ok|ok|ok|items 2 emitted 0 failed 3 live 0 closed|lost 1:0:5:2 0:1:4:2 0:1:5:2|no 3"},
		"abort, nothing there":   {oneNode + "abort|abort", "ok|ok|no 3"},
		"abort, closed and some": {oneNode + "offer 0 4|drain|abort|abort", "ok|ok|ok|ok|no 3"},
		"abort, closed and none": {oneNode + "drain|abort", "ok|ok|no 3"},
	})
	p, ok := impl.LastPipe(lines(oneNode + "tick 7|tick -3|tick 1001|tick 10"))
	if p.Tick != 17 || !ok {
		t.Error(p.Tick, ok)
	}
}

// MaxMoves is above MaxLines: no script comes to it, and all the moves that it may have are done.
func TestAsManyMovesAsMayBe(t *testing.T) {
	if impl.MaxMoves < impl.MaxLines {
		t.Fatal("a script may have more moves than are done")
	}
	expectScript(t, oneNode+strings.Repeat("tick 1|", 198)+"tick 1", sayOk(199)+"ok")
	expectScript(t, oneNode+strings.Repeat("tick 1001|", 198)+"offer 0 4", "ok|"+strings.Repeat("no 2|", 198)+"ok")
	expectScript(t, oneNode+strings.Repeat("step 0|", 197)+"offer 0 4|step 0", "ok|"+strings.Repeat("no 5|", 197)+"ok|ok")
	expectScript(t, oneNode+strings.Repeat("report|", 197)+"offer 0 4|step 0", "ok|"+strings.Repeat(noReport+"|", 197)+"ok|ok")
	expectScript(t, oneNode+strings.Repeat("what|", 197)+"offer 0 4|step 0", "ok|"+strings.Repeat("what|", 197)+"ok|ok")
	expectScript(t, oneNode+strings.Repeat("offer 0 4|step 0|", 98)+"report|drain|step 0", sayOk(197)+"items 98 emitted 98 failed 0 live 0|ok|no 5")
}

func TestRunByLine(t *testing.T) {
	expectScripts(t, map[string]scriptTold{
		"nothing in the boxes":     {oneNode + "run|report", "ok|steps 0|" + noReport + " closed"},
		"nothing in them any more": {oneNode + "offer 0 4|step 0|run|report", "ok|ok|ok|steps 0|items 1 emitted 1 failed 0 live 0 closed"},
		"tokens":                   {oneNode + "offer 0 4|offer 0 5|run|out|report", "ok|ok|ok|steps 2|out 0:0:4 1:0:5|items 2 emitted 2 failed 0 live 0 closed"},
		"tokens in two boxes":      {twoNodes + "offer 0 4|offer 0 7|step 0|run|out", "ok|ok|ok|ok|ok|steps 5|out 0:1:8 0:1:10 1:1:14 1:1:16"},
		"twice":                    {oneNode + "offer 0 4|run|run|report", "ok|ok|steps 1|steps 0|items 1 emitted 1 failed 0 live 0 closed"},
		"twice, without tokens":    {oneNode + "run|run", "ok|steps 0|steps 0"},
		"moves behind it":          {twoNodes + "offer 0 4|run|offer 0 5|step 0|step 1|fault 0|tick 3|drain|abort|report", "ok|ok|ok|steps 3|no 3|no 5|no 5|no 5|ok|no 3|no 3|items 1 emitted 2 failed 0 live 0 closed"},
		"bad moves behind it":      {oneNode + "run|offer 1 4|offer 0 1000001|step 1|fault 1|tick -1", "ok|steps 0|no 2|no 2|no 2|no 2|no 2"},
		"behind a drain":           {oneNode + "offer 0 4|drain|run|out", "ok|ok|ok|steps 1|out 0:0:4"},
		"behind an abort":          {oneNode + "offer 0 4|abort|run|lost", "ok|ok|ok|steps 0|lost 0:0:4:2"},
		"poison":                   {poisonEnd + "offer 0 5|offer 0 6|run|out|lost|report", "ok|ok|ok|steps 5|out 1:0:6|lost 0:0:5:1|items 2 emitted 1 failed 1 live 0 closed"},
		"poison that was tried":    {poisonEnd + "offer 0 5|step 0|fault 0|run|lost", "ok|ok|ok|ok|steps 2|lost 0:0:5:1"},
		"poison that aborts":       {poisonEnd + "offer 0 5|offer 0 10|offer 0 6|run|lost|report", "ok|ok|ok|ok|steps 6|lost 0:0:5:1 1:0:10:2 2:0:6:2|items 3 emitted 0 failed 3 live 0 closed"},
		"faults that are far":      {poisonEnd + "offer 0 5|offer 0 10|step 0|step 0|step 0|step 0|tick 10|run|lost", "ok|ok|ok|ok|ok|ok|ok|ok|steps 4|lost 0:0:5:1 1:0:10:1"},
		"the first line":           {oneNode + "run", "ok|steps 0"},
	})
}

func TestOutAndLost(t *testing.T) {
	expectScripts(t, map[string]scriptTold{
		"before all":          {oneNode + "report|out|lost", "ok|" + noReport + "|out|lost"},
		"nothing moves":       {oneNode + "offer 0 4|report|report|out|out|lost|lost|report", "ok|ok|items 1 emitted 0 failed 0 live 1|items 1 emitted 0 failed 0 live 1|out|out|lost|lost|items 1 emitted 0 failed 0 live 1"},
		"out, one by one":     {oneNode + "offer 0 4|offer 0 -5|out|step 0|out|step 0|out|lost", "ok|ok|ok|out|ok|out 0:0:4|ok|out 0:0:4 1:0:-5|lost"},
		"out, not sorted":     {"node a map:1:0 3 2|node b map:1:0 3 2|node c map:1:0 3 -|node d map:1:0 3 -|offer 0 9|offer 3 1|offer 1 2|step 3|step 1|step 2|step 0|step 2|out", "ok|ok|ok|ok|ok|ok|ok|ok|ok|ok|ok|ok|out 1:3:1 2:2:2 0:2:9"},
		"lost, both ways":     {oneNode + "offer 0 4|offer 0 -5|fault 0|fault 0|fault 0|fault 0|lost|abort|lost|out", "ok|ok|ok|ok|ok|ok|ok|lost 0:0:4:1|ok|lost 0:0:4:1 1:0:-5:2|out"},
		"lost, at node 1":     {twoNodes + "offer 0 1000000|step 0|fault 1|fault 1|fault 1|fault 1|lost|step 1|out", "ok|ok|ok|ok|ok|ok|ok|ok|lost 0:1:1000000:1|ok|out 0:1:1000000"},
		"out and lost":        {poisonEnd + "offer 0 6|offer 0 5|offer 0 7|step 0|step 0|step 0|step 0|step 0|out|lost|step 0|abort|out|lost|report", "ok|ok|ok|ok|ok|ok|ok|ok|ok|out 0:0:6|lost 1:0:5:1|ok|ok|out 0:0:6 2:0:7|lost 1:0:5:1|items 3 emitted 2 failed 1 live 0 closed"},
		"closed is told last": {oneNode + "report|drain|report", "ok|" + noReport + "|ok|" + noReport + " closed"},
	})
}

func TestMeanByLine(t *testing.T) {
	filter := "node a filter:2:1 3 1,2|node b map:10:0 3 -|node c expand:2:-1 3 -|"
	expectScripts(t, map[string]scriptTold{
		"one node":               {oneNode + "mean 0 4|mean 0 -4|mean 0 0", "ok|mean 0:4|mean 0:-4|mean 0:0"},
		"two nodes":              {twoNodes + "mean 0 4|mean 1 4", "ok|ok|mean 1:8 1:10|mean 1:8"},
		"sorted":                 {filter + "mean 0 5|mean 2 5", "ok|ok|ok|mean 1:50 2:4 2:5|mean 2:4 2:5"},
		"nothing comes of it":    {filter + "mean 0 4|mean 1 4", "ok|ok|ok|mean|mean 1:40"},
		"no node":                {twoNodes + "mean 2 4|mean 10 4|mean 9999999 4|mean -1 4|mean -9999999 4", "ok|ok|no|no|no|no|no"},
		"the values' end":        {oneNode + "mean 0 1000000|mean 0 -1000000", "ok|mean 0:1000000|mean 0:-1000000"},
		"beyond the values":      {oneNode + "mean 0 1000001|mean 0 -1000001|mean 0 9999999|mean 0 -9999999", "ok|no|no|no|no"},
		"neither node nor value": {oneNode + "mean 1 1000001", "ok|no"},
		"poison lets it by":      {poisonEnd + "mean 0 5|mean 0 6", "ok|mean 0:5|mean 0:6"},
		"cut":                    {"node a map:100:0 3 -|mean 0 1000000|mean 0 -10001|mean 0 -9999", "ok|mean 0:1000000|mean 0:-1000000|mean 0:-999900"},
		"no move":                {twoNodes + "mean 0 4|report|out", "ok|ok|mean 1:8 1:10|" + noReport + "|out"},
		"not of the pipe":        {twoNodes + "offer 0 4|step 0|mean 0 4|abort|mean 0 4|run|mean 0 4", "ok|ok|ok|ok|mean 1:8 1:10|ok|mean 1:8 1:10|steps 0|mean 1:8 1:10"},
		"the first line":         {twoNodes + "mean 0 4|node c map:1:0 3 -", "ok|ok|mean 1:8 1:10|what"},
	})
}

// linesOfNoWord are none that a pipe knows.
func linesOfNoWord() []string {
	all := []string{"", " ", "  ", "what", "ok", "no", "no 2", "graph 1", "steps 0", "fly", "help", "quit", "node", "node ", "node a map:1:0 3 -", "node z map:1:0 3 -", "nodes", "0", "-", "1 2",
		"offer", "offer ", "offer 0", "offer 0 ", "offer 0 1 ", "offer 0 1 2", "offer 0 1 x", "offer  0 1", "offer 0  1", " offer 0 1", "offer\t0\t1", "offer,0,1", "offer:0:1", "offer0 1", "offer 01", "offer a 1", "offers 0 1", "offe 0 1", "ffer 0 1",
		"step", "step ", "step 0 ", "step 0 0", "step  0", " step 0", "step a", "steps 0", "ste 0", "step0", "fault", "fault ", "fault 0 ", "fault 0 0", "fault  0", " fault 0", "fault a", "faults 0", "faul 0", "fault0",
		"tick", "tick ", "tick 1 ", "tick 1 1", "tick  1", " tick 1", "tick a", "ticks 1", "tic 1", "tick1", "tick -", "tick -0", "drain 0", "drain ", " drain", "drain drain", "draining", "drai", "abort 0", "abort ", " abort", "abort abort", "aborts", "abor",
		"run 0", "run ", " run", "run run", "runs", "ru", "report 0", "report ", " report", "report report", "reports", "repor", "out 0", "out ", " out", "out out", "outs", "ou", "lost 0", "lost ", " lost", "lost lost", "losts", "los",
		"mean", "mean ", "mean 0", "mean 0 ", "mean 0 1 ", "mean 0 1 2", "mean  0 1", " mean 0 1", "mean a 1", "means 0 1", "mea 0 1", "run\r", "drain\r", "\r", "\t", "\x00", "run\x00", "\x00run", "\xff", "run\xff", "\u00e4", "r\u00fcn", "\uff52\uff55\uff4e", "\ufeffrun", "run\u00a0", "offer\u00a00\u00a01"}
	for _, line := range []string{"offer 0 1", "step 0", "fault 0", "tick 1", "drain", "abort", "run", "report", "out", "lost", "mean 0 1"} {
		word, rest, _ := strings.Cut(line, " ")
		rest = strings.TrimSuffix(" "+rest, " ")
		all = append(all, strings.ToUpper(word)+rest, strings.ToUpper(word[:1])+word[1:]+rest, word[:1]+strings.ToUpper(word[1:])+rest, word+word+rest)
	}
	for _, word := range noNumbers() {
		all = append(all, "offer "+word+" 1", "offer 0 "+word, "step "+word, "fault "+word, "tick "+word, "mean "+word+" 1", "mean 0 "+word)
	}
	return all
}

// Lines of no word are answered, and nothing else comes of them, wherever they stand.
func TestLinesOfNoWord(t *testing.T) {
	for _, line := range linesOfNoWord() {
		expectScript(t, oneNode+"report|"+line+"|report", "ok|"+noReport+"|what|"+noReport)
		if strings.HasPrefix(line+" ", "node ") {
			continue
		}
		// It begins the pipe as any other line does.
		expectScript(t, oneNode+line+"|node b map:1:0 3 -|offer 0 4|"+line+"|step 0|out|report", "ok|what|what|ok|what|ok|out 0:0:4|items 1 emitted 1 failed 0 live 0")
		expectScript(t, line+"|"+oneNode+line, "graph 1|graph 1|graph 1")
	}
}

func TestGraphOfText(t *testing.T) {
	first, second := named("a", expandBy(2, 1), 3, 1), named("b", mapBy(2, 0), 3)
	ten := strings.TrimSuffix(nodesInARow(10), "|")
	all, _ := modelGraphOfText(lines(ten))
	for name, c := range map[string]struct {
		text string
		want []impl.Node
	}{
		"one node line":                {"node a expand:2:1 3 1", []impl.Node{first}},
		"two node lines":               {"node a expand:2:1 3 1|node b map:2:0 3 -", []impl.Node{first, second}},
		"with others behind":           {"node a expand:2:1 3 1|node b map:2:0 3 -|offer 0 4|step 0|run|abort", []impl.Node{first, second}},
		"node lines behind the others": {"node b map:2:0 3 -|report|node a expand:2:1 3 1", []impl.Node{second}},
		"behind an empty line":         {"node b map:2:0 3 -||node a expand:2:1 3 1", []impl.Node{second}},
		"one that is none":             {"node a expand:2:1 3 1|node x|node b map:2:0 3 -", []impl.Node{first, second}},
		"all are none":                 {"node|node x|node a expand:4:1 3 1", nil},
		"no node lines":                {"report|node a expand:2:1 3 1", nil},
		"one empty line":               {"", nil},
		"no source, not good":          {"node a expand:2:1 3 1", []impl.Node{first}},
		"not good, others behind":      {"node a expand:2:1 3 1|report|out", []impl.Node{first}},
		"one Name twice":               {"node b map:2:0 3 -|node b map:2:0 3 -|report", []impl.Node{second, second}},
		"a Cap that no graph has":      {"node a map:1:0 9999999 9999999,9999999", []impl.Node{named("a", same, 9999999, 9999999, 9999999)}},
		"ten":                          {ten, all},
		"eleven":                       {ten + "|node k map:1:0 3 -", all},
		"eleven, and a line behind":    {ten + "|node k map:1:0 3 -|report", all},
		"too wide":                     {nodeLines(oneMore()) + "report", oneMore()},
	} {
		t.Run(name, func(t *testing.T) {
			expectCall(t, impl.GraphOfText, in(lines(c.text)), c.want, true)
			expectScriptModel(t, lines(c.text))
		})
	}
}

func TestLastPipe(t *testing.T) {
	for name, c := range map[string]struct{ text, pipe string }{
		"begun by a report":       {oneNode + "report", "[]"},
		"begun by an empty line":  {oneNode, "[]"},
		"begun by no word":        {twoNodes + "fly", "[] []"},
		"begun by a refused move": {twoNodes + "step 5", "[] []"},
		"begun by a mean":         {nodeLines(shape(tenInARow)) + "mean 0 4", "[] [] [] [] [] [] [] [] [] []"},
		"under way":               {twoNodes + "offer 0 4|offer 0 5|step 0|step 1|fault 0|tick 7", "tick 7 items 2 [1:5/1] [0:5] out 0:1:8 faults 0"},
		"drained":                 {twoNodes + "offer 0 4|drain|step 0", "items 1 closed [] [0:4 0:5]"},
		"run":                     {twoNodes + "offer 0 4|run", "items 1 closed [] [] out 0:1:8 0:1:10"},
		"run, and moves":          {poisonEnd + "offer 0 5|tick 3|run|tick 4|offer 0 1", "tick 7 items 1 closed [] lost 0:0:5:1 faults 3 3 3 3"},
		"aborted":                 {twoNodes + "offer 0 4|step 0|abort|report", "items 1 closed [] [] lost 0:1:4:2 0:1:5:2"},
		"node lines behind":       {oneNode + "offer 0 4|node b map:1:0 3 -", "items 1 [0:4]"},
		"one that is none ahead":  {"node x|" + oneNode + "offer 0 4", "items 1 [0:4]"},
	} {
		t.Run(name, func(t *testing.T) {
			got := guardedCall(t, impl.LastPipe, in(lines(c.text)))
			if told := pipeText(got[0].(impl.Pipe)); told != c.pipe || got[1] != true {
				t.Errorf("%s: %v\n%s, not\n%s", c.text, got[1], told, c.pipe)
			}
			expectScriptModel(t, lines(c.text))
		})
	}
	for _, text := range []string{"", "node a map:1:0 3 -", "node x", "node", strings.TrimSuffix(nodesInARow(11), "|"), "report", "node a map:1:0 3 0|report", "node a map:1:0 9 -|offer 0 4|run",
		nodeLines(oneMore()) + "report|offer 6 4", "node a map:1:0 3 -|node a map:1:0 3 -|run", "offer 0 4|node a map:1:0 3 -|offer 0 4"} {
		expectCall(t, impl.LastPipe, in(lines(text)), impl.Pipe{}, false)
		expectScriptModel(t, lines(text))
	}
}
