package tests

import (
	"fmt"
	"regexp"
	"slices"
	"strconv"
	"strings"

	"loop.example/g00145/impl"
)

// The chapter said a second time, by the forms of its lines, for comparison over many nodes and scripts.

const (
	modelNumber  = `(0|-?[1-9][0-9]{0,6})`
	modelNatural = `(?:0|[1-9][0-9]{0,6})`
)

var modelNodeForm = regexp.MustCompile(`\Anode ([a-zA-Z]{1,12}) (map|filter|expand|poison):` + modelNumber + `:` + modelNumber +
	` (` + modelNatural + `) (-|` + modelNatural + `(?:,` + modelNatural + `){0,19})\z`)

var modelLineForms = []*regexp.Regexp{
	regexp.MustCompile(`\A(offer|mean) ` + modelNumber + ` ` + modelNumber + `\z`),
	regexp.MustCompile(`\A(step|fault|tick) ` + modelNumber + `\z`),
	regexp.MustCompile(`\A(drain|abort|run|report|out|lost)\z`),
}

func modelStageWords() []string { return []string{"", "map", "filter", "expand", "poison"} }

func modelReadNode(text string) (impl.Node, bool) {
	found := modelNodeForm.FindStringSubmatch(text)
	if found == nil {
		return impl.Node{}, false
	}
	n := impl.Node{Name: found[1], Cap: numbers(found[5])[0], Next: numbers(strings.TrimPrefix(found[6], "-")),
		Stage: impl.Stage{Kind: slices.Index(modelStageWords(), found[2]), A: numbers(found[3])[0], B: numbers(found[4])[0]}}
	if !modelGoodStage(n.Stage) {
		return impl.Node{}, false
	}
	return n, true
}

// modelNodeText writes whatever it is given; only what can be read again as the same node is a text.
func modelNodeText(n impl.Node) (string, bool) {
	word := "none"
	if modelIsIn(1, n.Stage.Kind, 4) {
		word = modelStageWords()[n.Stage.Kind]
	}
	next := "-"
	if len(n.Next) > 0 {
		next = strings.ReplaceAll(strings.Trim(fmt.Sprint(n.Next), "[]"), " ", ",")
	}
	text := fmt.Sprintf("node %s %s:%d:%d %d %s", n.Name, word, n.Stage.A, n.Stage.B, n.Cap, next)
	if back, ok := modelReadNode(text); !ok || !sameValues([]any{back}, []any{n}) {
		return "", false
	}
	return text, true
}

// modelTold is all that a script comes to; pipe is nil where none was begun.
type modelTold struct {
	answers []string
	g       []impl.Node
	pipe    *modelPipe
	moves   int
}

func modelLines(text string) ([]string, bool) {
	if len(text) > 3000 || strings.Count(text, "\n") > 200 || text != "" && !strings.HasSuffix(text, "\n") {
		return nil, false
	}
	var lines []string
	for line := range strings.Lines(text) {
		lines = append(lines, line[:len(line)-1])
	}
	return lines, true
}

func modelScript(text string) (*modelTold, bool) {
	lines, ok := modelLines(text)
	if !ok {
		return nil, false
	}
	first := slices.IndexFunc(lines, func(line string) bool { return !strings.HasPrefix(line+" ", "node ") })
	if first < 0 {
		first = len(lines)
	}
	told := &modelTold{}
	for _, line := range lines[:first] {
		told.say(told.node(line))
	}
	if first == len(lines) {
		return told, true
	}
	widest, _ := modelWidestOf(told.g)
	code := modelCheckGraph(told.g)
	if code == 0 && widest > 400 {
		code = 8
	}
	if code == 0 {
		told.pipe = &modelPipe{g: told.g}
	}
	for _, line := range lines[first:] {
		if code != 0 {
			told.say("graph " + strconv.Itoa(code))
			continue
		}
		told.say(told.line(line))
	}
	return told, true
}

func (told *modelTold) say(answer string) { told.answers = append(told.answers, answer) }

func (told *modelTold) node(line string) string {
	n, ok := modelReadNode(line)
	if !ok || len(told.g) >= 10 {
		return "no"
	}
	told.g = append(told.g, n)
	return "ok"
}

func (told *modelTold) line(line string) string {
	for _, form := range modelLineForms {
		if found := form.FindStringSubmatch(line); found != nil {
			return told.command(found[1], numbers(strings.Join(found[2:], " ")))
		}
	}
	return "what"
}

func (told *modelTold) command(word string, n []int) string {
	row := []string{word}
	say := func(format string, args ...any) { row = append(row, fmt.Sprintf(format, args...)) }
	switch word {
	case "run":
		return fmt.Sprint("steps ", told.pipe.runOut())
	case "report":
		return modelReport(told.pipe.pipe())
	case "out":
		for _, o := range told.pipe.emitted {
			say("%d:%d:%d", o.Item, o.Node, o.Value)
		}
	case "lost":
		for _, l := range told.pipe.failed {
			say("%d:%d:%d:%d", l.Item, l.Node, l.Value, l.Why)
		}
	case "mean":
		meaning, ok := modelMeaningOf(told.g, n[0], n[1])
		if !ok {
			return "no"
		}
		for _, e := range meaning {
			say("%d:%d", e.Node, e.Value)
		}
	default:
		return told.move(word, append(n, 0, 0))
	}
	return strings.Join(row, " ")
}

func (told *modelTold) move(word string, n []int) string {
	if told.moves++; told.moves > 300 {
		return "what"
	}
	m := map[string]impl.Move{
		"offer": {Kind: impl.MoveOffer, Node: n[0], Value: n[1]},
		"step":  {Kind: impl.MoveStep, Node: n[0]},
		"fault": {Kind: impl.MoveFault, Node: n[0]},
		"tick":  {Kind: impl.MoveTick, Value: n[0]},
		"drain": {Kind: impl.MoveDrain},
		"abort": {Kind: impl.MoveAbort},
	}[word]
	if code := told.pipe.code(m); code != impl.PipeOk {
		return fmt.Sprint("no ", code)
	}
	told.pipe.change(m)
	return "ok"
}

func modelRunPipe(text string) string {
	told, ok := modelScript(text)
	if !ok || len(told.answers) == 0 {
		return ""
	}
	return strings.Join(told.answers, "\n") + "\n"
}

func modelGraphOfText(text string) ([]impl.Node, bool) {
	told, ok := modelScript(text)
	if !ok {
		return nil, false
	}
	return told.g, true
}

func modelLastPipe(text string) (impl.Pipe, bool) {
	told, ok := modelScript(text)
	if !ok || told.pipe == nil {
		return impl.Pipe{}, false
	}
	return told.pipe.pipe(), true
}
