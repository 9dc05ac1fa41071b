package tests

import (
	"reflect"
	"slices"
	"testing"
)

// The guards themselves: each kind of broken promise is seen.

type nested struct {
	Name  string
	Lists [][]int
}

func TestGuardSeesWrites(t *testing.T) {
	arg := nested{Name: "n", Lists: [][]int{{1, 2}, {3}}}
	for name, write := range map[string]func(nested){
		"into a list":           func(n nested) { n.Lists[1][0] = 9 },
		"behind an inner list":  func(n nested) { _ = append(n.Lists[0], 9) },
		"behind the outer list": func(n nested) { _ = append(n.Lists, nil) },
		"an inner list away":    func(n nested) { n.Lists[0] = nil },
	} {
		if !guardSees(arg, func(n nested) []any { write(n); return nil }) {
			t.Error(name, "is not seen")
		}
	}
	if guardSees(arg, func(n nested) []any { return nil }) {
		t.Error("a call that writes nothing is refused")
	}
}

func TestGuardSeesSharedMemory(t *testing.T) {
	arg := nested{Name: "n", Lists: [][]int{{1, 2}, {3}}}
	both := []int{4, 5, 6}
	for name, answer := range map[string]func(nested) []any{
		"the argument":            func(n nested) []any { return []any{n} },
		"an inner list":           func(n nested) []any { return []any{n.Lists[1]} },
		"an empty piece":          func(n nested) []any { return []any{n.Lists[1][:0]} },
		"the outer list's copy":   func(n nested) []any { return []any{slices.Clone(n.Lists)} },
		"two answers on another":  func(n nested) []any { return []any{both, both[2:]} },
		"lists within one answer": func(n nested) []any { return []any{nested{Lists: [][]int{both[:1], both[1:]}}} },
	} {
		if !guardSees(arg, answer) {
			t.Error(name, "is not seen")
		}
	}
	fresh := func(n nested) []any { return []any{nested{Lists: [][]int{{1, 2}, {3}}}, []int{1}, ""} }
	if guardSees(arg, fresh) {
		t.Error("new memory is refused")
	}
}

// guardSees goes the way of callOnce, without failing the test.
func guardSees(arg nested, f func(nested) []any) bool {
	var m memory
	placed := m.place(reflect.ValueOf(arg), guardWidth, fillStrange)
	answer := f(placed.Interface().(nested))
	return !m.untouched() || m.sharedWith(answer)
}

func TestSameValues(t *testing.T) {
	if !sameValues([]any{[]int(nil), nested{Lists: [][]int{}}}, []any{[]int{}, nested{}}) {
		t.Error("the empty list and the nil list differ")
	}
	if sameValues([]any{[]int{1}}, []any{[]int{2}}) || sameValues([]any{[][]int{{1}}}, []any{[][]int{nil}}) {
		t.Error("lists that differ are the same")
	}
}
