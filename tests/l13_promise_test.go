package tests

import (
	"fmt"
	"reflect"
	"slices"
	"strconv"
	"strings"
	"testing"
	"unsafe"

	"loop.example/g00145/impl"
)

// anyNatural has 1..7 digits, all lengths as often.
func (r *turns) anyNatural() int {
	least := 1
	for range r.next(7) {
		least *= 10
	}
	return []int{0, least, 10*least - 1, least + r.next(9*least)}[r.next(4)]
}

func (r *turns) anyName() string {
	name := make([]byte, 1+r.next(12))
	for k := range name {
		name[k] = "abcmyzABCMYZ"[r.next(12)]
	}
	return string(name)
}

// anyTextNode is one that has a text.
func (r *turns) anyTextNode() impl.Node {
	n := impl.Node{Name: r.anyName(), Stage: r.anyGoodStage(), Cap: r.anyNatural()}
	for range []int{0, 1, r.next(21), 20}[r.next(4)] {
		n.Next = append(n.Next, r.anyNatural())
	}
	return n
}

// Promise 13: nodes come back from their text, and no two have one.
func TestPromise13Nodes(t *testing.T) {
	r, met, texts := turns(13), map[string]int{}, map[string]impl.Node{}
	for range 20000 {
		n := r.anyTextNode()
		text, ok := impl.NodeText(n)
		if !ok || text == "" {
			t.Fatalf("%+v: %q, %v", n, text, ok)
		}
		back, ok := impl.ReadNode(text)
		if !ok || !reflect.DeepEqual(back, n) {
			t.Fatalf("%+v: %q: %+v, %v", n, text, back, ok)
		}
		if again, ok := impl.NodeText(back); !ok || again != text {
			t.Fatalf("%+v: %q, then %q, %v", n, text, again, ok)
		}
		if other, taken := texts[text]; taken && !reflect.DeepEqual(other, n) {
			t.Fatalf("%q is %+v and %+v", text, n, other)
		}
		texts[text] = n
		met["kind "+strconv.Itoa(n.Stage.Kind)]++
		met["next "+strconv.Itoa(len(n.Next))]++
		met["name "+strconv.Itoa(len(n.Name))]++
		met["cap "+strconv.Itoa(len(strconv.Itoa(n.Cap)))]++
	}
	expectMetAll(t, met, 1000, "kind 1", "kind 2", "kind 3", "kind 4", "next 0", "next 1", "next 20", "name 1", "name 12", "cap 1", "cap 7")
	for k := range 300 {
		r := turns(k)
		expectNodeModel(t, r.anyTextNode())
	}
}

// Promise 13: a text that is read is the text of what was read, whatever it looks like.
func TestPromise13Texts(t *testing.T) {
	r, met := turns(31), map[bool]int{}
	for range 20000 {
		text := r.nearText(modelMust(r.anyTextNode()), 1+r.next(3))
		n, ok := impl.ReadNode(text)
		want, wanted := modelReadNode(text)
		if ok != wanted || !sameValues([]any{n}, []any{want}) {
			t.Fatalf("%q: %+v, %v", text, n, ok)
		}
		if again, told := impl.NodeText(n); told != ok || ok && again != text {
			t.Fatalf("%q: %+v: %q, %v", text, n, again, told)
		}
		met[ok]++
	}
	if met[true] < 500 || met[false] < 5000 {
		t.Error("met too seldom:", met)
	}
}

func modelMust(n impl.Node) string {
	text, ok := modelNodeText(n)
	if !ok {
		panic(fmt.Sprintf("%+v", n))
	}
	return text
}

// nearText is the text with so many pieces taken out, put in twice or made another byte.
func (r *turns) nearText(text string, many int) string {
	bytes := []byte(text)
	for range many {
		at := r.next(len(bytes) + 1)
		end := min(at+r.next(3), len(bytes))
		switch r.next(4) {
		case 0:
			bytes = slices.Delete(bytes, at, end)
		case 1:
			bytes = slices.Insert(bytes, at, slices.Clone(bytes[at:end])...)
		case 2:
			bytes = slices.Insert(bytes, at, r.anyByte())
		case 3:
			bytes = slices.Replace(bytes, at, min(at+1, len(bytes)), r.anyByte())
		}
	}
	return string(bytes)
}

func (r *turns) anyByte() byte {
	const likely = " -,:0123456789\nabmnpzAZ\r\t\x00\x7f\x80\xc3\xff"
	if r.next(10) == 0 {
		return byte(r.next(256))
	}
	return likely[r.next(len(likely))]
}

func lineOf(m impl.Move) string {
	word := []string{"hover", "offer", "step", "fault", "tick", "drain", "abort", "hover"}[max(0, min(m.Kind, 7))]
	switch word {
	case "offer":
		return fmt.Sprintf("%s %d %d", word, m.Node, m.Value)
	case "step", "fault":
		return fmt.Sprintf("%s %d", word, m.Node)
	case "tick":
		return fmt.Sprintf("%s %d", word, m.Value)
	}
	return word
}

// anyLine is a move's in most; asks is how many of ten are not.
func (r *turns) anyLine(g []impl.Node, faults, ticks, asks int) string {
	if r.next(10) >= asks {
		return lineOf(r.anyMove(g, faults, ticks))
	}
	switch k := r.next(20); {
	case k < 4:
		return fmt.Sprintf("mean %d %d", r.next(len(g)+1)-r.next(2), []int{r.next(20) - 10, r.anyValue(), r.anyInt()}[r.next(3)])
	case k < 13:
		return []string{"report", "out", "lost"}[k%3]
	case k == 13 && r.next(3) == 0:
		return "run"
	case k < 16:
		return r.nearText(lineOf(r.anyMove(g, faults, ticks)), 1)
	case k == 16:
		return modelMust(r.anyTextNode())
	case k == 17:
		return linesOfNoWord()[r.next(40)]
	}
	return "report"
}

// anyNodeLines are those of a good graph in most, with lines that are none and what spoils it among them in some.
func (r *turns) anyNodeLines(g []impl.Node) []string {
	var list []string
	g = slices.Clone(g)
	if r.next(6) == 0 {
		code := []int{impl.GraphTwice, impl.GraphCap, impl.GraphEdge, impl.GraphCycle}[r.next(4)]
		spoils()[code](g, r.next(len(g)))
	}
	for _, n := range g {
		list = append(list, modelMust(n))
		if r.next(15) == 0 {
			list = append(list, r.nearText(modelMust(n), 1))
		}
	}
	if r.next(12) == 0 {
		return list[:r.next(len(list)+1)]
	}
	if r.next(12) == 0 {
		list = append(list, strings.Split(nodesInARow(11), "|")[:11]...)
	}
	return list
}

// anyScriptLines are at most so many behind those of the nodes; not all of them need be a script.
func (r *turns) anyScriptLines(many int) []string {
	g := r.anyPipeGraph(r.next(2) == 0)
	if r.next(15) == 0 {
		g = r.anyGoodGraph()
	}
	list := r.anyNodeLines(g)
	faults, ticks, asks := []int{0, 3, 15, 30}[r.next(4)], []int{0, 5, 20}[r.next(3)], []int{0, 2, 5}[r.next(3)]
	for range many {
		list = append(list, r.anyLine(g, faults, ticks, asks))
	}
	return list
}

func textOf(list []string) string {
	return strings.Join(append(slices.Clone(list), ""), "\n")
}

// anyScript is cut where it would be too long.
func (r *turns) anyScript() []string {
	list := r.anyScriptLines(r.next(160))
	// A piece that was put into a line may have ended it.
	list = strings.Split(strings.Join(list, "\n"), "\n")
	for len(list) > 200 || len(textOf(list)) > 3000 {
		list = list[:len(list)-1]
	}
	return list
}

func answersOf(text string) []string {
	told := strings.Split(impl.RunPipe(text), "\n")
	return told[:len(told)-1]
}

// Promise 13: a script's answers do not hang on what follows.
func TestPromise13Scripts(t *testing.T) {
	met := map[string]int{}
	for seed := range 250 {
		r := turns(seed)
		list := r.anyScript()
		all := answersOf(textOf(list))
		if len(all) != len(list) {
			t.Fatalf("%q: %d answers to %d lines", list, len(all), len(list))
		}
		other := r.anyScriptLines(10)
		for many := range len(list) + 1 {
			if told := answersOf(textOf(list[:many])); !slices.Equal(told, all[:many]) {
				t.Fatalf("%q: %q, not %q", list[:many], told, all[:many])
			}
			tail := other[r.next(len(other)):]
			longer := textOf(slices.Concat(list[:many], tail))
			if _, fits := modelLines(longer); !fits {
				continue
			}
			if told := answersOf(longer); !slices.Equal(told[:many], all[:many]) {
				t.Fatalf("%q: %q, not %q", longer, told[:many], all[:many])
			}
			met["other tail"]++
		}
		for _, answer := range all {
			word, _, _ := strings.Cut(answer, " ")
			met[word]++
		}
	}
	expectMetAll(t, met, 100, "ok", "no", "graph", "what", "items", "out", "lost", "mean", "other tail")
	expectMetAll(t, met, 20, "steps")
}

// Once a line is there that is no node line the graph stays as it is; and what is told of a pipe behind a line is the pipe there.
func TestGraphsStay(t *testing.T) {
	met := map[bool]int{}
	for seed := range 120 {
		r := turns(seed + 1000)
		list := r.anyScript()
		g, _ := impl.GraphOfText(textOf(list))
		_, begun := impl.LastPipe(textOf(list))
		other := slices.IndexFunc(list, func(line string) bool { return !strings.HasPrefix(line+" ", "node ") })
		for many := range len(list) + 1 {
			part := textOf(list[:many])
			now, ok := impl.GraphOfText(part)
			if !ok || len(now) > len(g) || !sameValues([]any{now}, []any{g[:len(now)]}) || other >= 0 && many > other && len(now) < len(g) {
				t.Fatalf("%q: %+v, then %+v", list[:many], now, g)
			}
			p, there := impl.LastPipe(part)
			if there != (begun && many > other) {
				t.Fatalf("%q: a pipe: %v", list[:many], there)
			}
			met[there]++
			if told := answersOf(textOf(append(slices.Clone(list[:many]), "report"))); there && many < 199 && len(part) < 2990 && told[many] != impl.ReportText(p) {
				t.Fatalf("%q: %q, not %s", list[:many], told, pipeText(p))
			}
		}
	}
	if met[true] < 1000 || met[false] < 500 {
		t.Error("met too seldom:", met)
	}
}

// Scripts of nodes and moves are what chapter 12 makes of them, move by move, and run out likewise.
func TestScriptsPlayPipes(t *testing.T) {
	codes, ran := map[int]int{}, 0
	for seed := range 400 {
		r := turns(seed)
		g := r.anyPipeGraph(r.next(2) == 0)
		list := slices.DeleteFunc(r.anyMoves(g, r.next(150)), func(m impl.Move) bool {
			return modelNumberFails(m.Node) || modelNumberFails(m.Value) || !modelIsIn(1, m.Kind, 6)
		})
		text := strings.ReplaceAll(nodeLines(g), "|", "\n")
		for k, m := range list {
			if len(text) > 2900 || len(g)+k > 190 {
				list = list[:k]
				break
			}
			text += lineOf(m) + "\n"
		}
		want, told, _ := impl.PlayPipe(g, list)
		answers := answersOf(text + "\nrun\n")
		for k, code := range told {
			codes[code]++
			say := "ok"
			if code != 0 {
				say = "no " + strconv.Itoa(code)
			}
			if answers[len(g)+k] != say {
				t.Fatalf("%q: %q, not %q", text, answers[len(g)+k], say)
			}
		}
		if p, ok := impl.LastPipe(text + "\n"); !ok || !sameValues([]any{p}, []any{want}) {
			t.Fatalf("%q: %s, not %s", text, pipeText(p), pipeText(want))
		}
		out, steps, _ := impl.RunOut(g, list)
		if p, ok := impl.LastPipe(text + "run\n"); !ok || !sameValues([]any{p}, []any{out}) || answers[len(answers)-1] != "steps "+strconv.Itoa(steps) {
			t.Fatalf("%q: %s, not %s: %q", text, pipeText(p), pipeText(out), answers)
		}
		ran += steps
		if back, ok := impl.GraphOfText(text); !ok || !sameValues([]any{back}, []any{g}) {
			t.Fatalf("%q: %+v, not %+v", text, back, g)
		}
	}
	expectMet(t, codes, 50, impl.PipeOk, impl.PipeNone, impl.PipeClosed, impl.PipeFull, impl.PipeEmpty, impl.PipeBlocked)
	if ran < 2000 {
		t.Error("met too seldom:", ran)
	}
}

// modelNumberFails tells of what no line can say.
func modelNumberFails(n int) bool { return !modelIsIn(-9999999, n, 9999999) }

// All rows of a few lines, without the guards, which would take long over so many.
func TestAllSmallScripts(t *testing.T) {
	words := []string{"node a expand:2:1 3 1", "node b poison:5:0 3 -", "node c map:1:0 3", "offer 0 4", "step 0", "step 1", "fault 1", "run", "abort", "out", "lost", "", "mean 0 4"}
	many := 0
	for _, list := range listsOf(words, 4) {
		for _, begin := range [][]string{nil, words[:2], append(words[:2:2], "offer 0 4", "offer 0 3", "step 0")} {
			text := textOf(slices.Concat(begin, list))
			if told, want := impl.RunPipe(text), modelRunPipe(text); told != want {
				t.Fatalf("%q: %q, not %q", text, told, want)
			}
			many++
		}
	}
	if many < 3*13*13*13*13 {
		t.Error("not all were met:", many)
	}
}

func TestManyScripts(t *testing.T) {
	met := map[string]int{}
	for seed := range 400 {
		r := turns(seed + 5000)
		text := textOf(r.anyScript())
		expectScriptModel(t, text)
		for _, line := range strings.Split(modelRunPipe(text), "\n") {
			met[line]++
		}
	}
	expectMetAll(t, met, 10, "ok", "no", "what", "out", "lost", "mean", "steps 0", "no 2", "no 3", "no 4", "no 5", "no 6", "graph 1", "graph 3", "graph 5", "graph 6", "graph 7", "graph 8")
}

// Promise 14: texts of any bytes, and nodes of any numbers and names.
func TestAnyTextIsAnswered(t *testing.T) {
	r, met := turns(1314), map[string]int{}
	for range 1500 {
		var text string
		switch r.next(4) {
		case 0:
			text = r.nearText(textOf(r.anyScript()), 1+r.next(20))
		case 1:
			text = textOf(r.anyScriptLines(150 + r.next(60)))
		case 2:
			for range r.next(400) {
				text += string([]byte{r.anyByte()})
			}
			text += []string{"", "\n"}[r.next(2)]
		case 3:
			text = r.nearText(strings.Repeat("node a map:1:0 3 -\n", r.next(4))+strings.Repeat("\n", 190+r.next(12)), r.next(4))
		}
		_, ok := modelLines(text)
		met[strconv.FormatBool(ok)]++
		expectScriptModel(t, text)
		expectReadModel(t, text)
	}
	expectMetAll(t, met, 200, "true", "false")
	names := []string{"a", "abcdefghijkl", "abcdefghijklm", "", "a b", "a\n", "\xff", "\u00e4"}
	for range 1500 {
		n := impl.Node{Name: names[r.next(2+r.next(7))], Stage: r.anyGoodStage(), Cap: []int{r.anyNatural(), r.anyInt(), r.wideInt()}[r.next(3)]}
		if r.next(4) == 0 {
			n.Stage = impl.Stage{Kind: r.anyInt(), A: r.anyInt(), B: r.wideInt()}
		}
		for range r.next(24) {
			n.Next = append(n.Next, []int{r.anyNatural(), r.anyNatural(), r.anyNatural(), r.anyInt()}[r.next(2+r.next(3))])
		}
		met["node "+strconv.FormatBool(expectNodeModel(t, n))]++
	}
	expectMetAll(t, met, 200, "node true", "node false")
}

// textWithin tells whether a text lies in the memory of another.
func textWithin(text, whole string) bool {
	if text == "" || whole == "" {
		return false
	}
	at, from := uintptr(unsafe.Pointer(unsafe.StringData(text))), uintptr(unsafe.Pointer(unsafe.StringData(whole)))
	return at < from+uintptr(len(whole)) && from < at+uintptr(len(text))
}

// Promise 14: an answer is new memory, its texts too.
func TestTextsAreNewMemory(t *testing.T) {
	text := "node abcdefghijkl map:1:0 3 1\nnode b map:1:0 3 -\n"
	if !textWithin(text[5:10], text) || textWithin(strings.Clone(text), text) {
		t.Fatal("what is shared is not seen")
	}
	g, ok := impl.GraphOfText(text)
	if !ok || len(g) != 2 || textWithin(g[0].Name, text) || textWithin(g[1].Name, text) {
		t.Error("GraphOfText shares its text's memory", g, ok)
	}
	line := strings.Clone("node abcdefghijkl map:1:0 3 1")
	n, ok := impl.ReadNode(line)
	if !ok || textWithin(n.Name, line) {
		t.Error("ReadNode shares its text's memory", n, ok)
	}
	if told, ok := impl.NodeText(n); !ok || textWithin(told, n.Name) || textWithin(told, line) {
		t.Error("NodeText shares its node's memory", told, ok)
	}
	if told := impl.RunPipe(text); textWithin(told, text) {
		t.Error("RunPipe shares its text's memory", told)
	}
}

// Nodes whose Next is one list handed in several times; and what is answered may be written over.
func TestNodesOfOneMemory(t *testing.T) {
	next := countUp(0, 25)
	nodes := []impl.Node{named("a", same, 3, next[:3]...), named("b", same, 3, next[:20]...), named("c", same, 3, next[5:5]...), named("d", same, 3, next[24:]...)}
	before := plainValues([]any{nodes, next})
	for range 3 {
		for k, want := range []string{"0,1,2", "0,1,2,3,4,5,6,7,8,9,10,11,12,13,14,15,16,17,18,19", "-", "24"} {
			text, ok := impl.NodeText(nodes[k])
			if !ok || text != fmt.Sprintf("node %s map:1:0 3 %s", nodes[k].Name, want) {
				t.Fatal(text, ok)
			}
			back, _ := impl.ReadNode(text)
			for at := range back.Next[:cap(back.Next)] {
				back.Next[:cap(back.Next)][at] = -99
			}
		}
		if !sameValues(before, []any{nodes, next}) {
			t.Fatalf("written into: %+v %v", nodes, next)
		}
		script := lines(twoNodes + "offer 0 4|offer 0 5|step 0|step 1|fault 0")
		p, _ := impl.LastPipe(script)
		scribblePipe(p)
		g, _ := impl.GraphOfText(script)
		g[0].Next[0] = -99
		g[0], g[1] = impl.Node{}, impl.Node{}
		expectScriptModel(t, script)
	}
}

// What nothing is told of is the nil list.
func TestLinesEmptyLists(t *testing.T) {
	for _, text := range []string{"", "\n", "report\n", "node x\n", "node x\nreport\n"} {
		if g, ok := impl.GraphOfText(text); g != nil || !ok {
			t.Error(text, g, ok)
		}
	}
	p, ok := impl.LastPipe(lines(oneNode + "offer 0 4|offer 0 5|run"))
	if p.Boxes[0] != nil || p.Failed != nil || p.Faults != nil || !ok {
		t.Error(p, ok)
	}
	if n, ok := impl.ReadNode("node a map:1:0 3 -1"); n.Next != nil || ok {
		t.Error(n, ok)
	}
}

// What is answered must not hang on who else asks at the same time.
func TestScriptsAtOnce(t *testing.T) {
	r := turns(77)
	answers := make(chan []string, 60)
	for range cap(answers) {
		text := textOf(r.anyScript())
		go func() { answers <- []string{text, impl.RunPipe(text)} }()
	}
	for range cap(answers) {
		if got := <-answers; got[1] != modelRunPipe(got[0]) {
			t.Fatalf("%q: %q", got[0], got[1])
		}
	}
}

// As much as a script may put into a graph that is as wide as may be, and tell of it.
func TestGreatestScripts(t *testing.T) {
	text := nodeLines(capped(8, exactly400()))
	for range 7 {
		text += "offer 5 1000000|step 5|"
	}
	text += "run|" + strings.Repeat("out|mean 5 1000000|", 70) + "report"
	expectScriptModel(t, lines(text))
	ten := capped(8, shape("- - - - - - - - - -"))
	text = nodeLines(ten)
	for k := range 80 {
		text += "offer " + strconv.Itoa(k%10) + " -1000000|"
	}
	expectScriptModel(t, lines(text+"report|abort|lost|report"))
	if p, ok := impl.LastPipe(lines(text + "report")); len(slices.Concat(p.Boxes...)) != 80 || !ok {
		t.Error(pipeText(p), ok)
	}
}
