package tests

import (
	"reflect"
	"runtime"
	"strings"
	"testing"
)

// in are the arguments of one call.
func in(args ...any) []any { return args }

// expectCall is one call with everything that promise 14 asks of it, and what it should answer.
func expectCall(t *testing.T, f any, args []any, want ...any) {
	t.Helper()
	if got := guardedCall(t, f, args); !sameValues(got, want) {
		t.Errorf("%s of %+v: %+v, not %+v", funcName(f), args, got, want)
	}
}

func funcName(f any) string {
	full := runtime.FuncForPC(reflect.ValueOf(f).Pointer()).Name()
	return full[strings.LastIndex(full, ".")+1:]
}

// guardedCall calls with memory that is just as long as the lists, then with lists in the midst of other memory:
// of strange values, and of small ones that would go for a continuation.
// It fails if the answers differ, if an argument or what lies beside it is written into, or if memory is shared.
func guardedCall(t *testing.T, f any, args []any) []any {
	t.Helper()
	defer func() {
		if p := recover(); p != nil {
			t.Fatalf("%s of %+v: panic: %v", funcName(f), args, p)
		}
	}()
	answer := plainValues(callOnce(t, f, args, 0, fillSmall))
	for _, fill := range []func(reflect.Value){fillStrange, fillSmall} {
		again := callOnce(t, f, args, guardWidth, fill)
		if !sameValues(again, answer) {
			t.Fatalf("%s of %+v: the answer hangs on what lies beside the lists: %+v, not %+v", funcName(f), args, again, answer)
		}
	}
	return answer
}

func callOnce(t *testing.T, f any, args []any, width int, fill func(reflect.Value)) []any {
	t.Helper()
	var m memory
	var placed []reflect.Value
	for _, arg := range args {
		placed = append(placed, m.place(reflect.ValueOf(arg), width, fill))
	}
	var answer []any
	for _, v := range reflect.ValueOf(f).Call(placed) {
		answer = append(answer, v.Interface())
	}
	if !m.untouched() {
		t.Fatalf("%s of %+v: wrote into its argument or beside it", funcName(f), args)
	}
	for k := range args {
		if !sameValues([]any{placed[k].Interface()}, []any{args[k]}) {
			t.Fatalf("%s of %+v: argument %d was not kept", funcName(f), args, k)
		}
	}
	if m.sharedWith(answer) {
		t.Fatalf("%s of %+v: the answer shares memory with an argument or with itself", funcName(f), args)
	}
	return answer
}

// memory are all lists of the arguments, each with what lies beside it, and how they were before the call.
type memory struct {
	whole  []reflect.Value
	before []any
}

// place copies a value so that each list in it, at any depth, has that many values of other memory on both sides.
func (m *memory) place(v reflect.Value, width int, fill func(reflect.Value)) reflect.Value {
	made := reflect.New(v.Type()).Elem()
	switch v.Kind() {
	case reflect.Slice:
		// Lists of lists are costly to fill, and whoever reads or writes beside them begins with the nearest.
		beside := width
		if !holdsNoList(v.Type().Elem()) {
			beside = min(width, 10)
		}
		whole := reflect.MakeSlice(v.Type(), v.Len()+2*beside, v.Len()+2*beside)
		for k := range beside {
			fill(whole.Index(k))
			fill(whole.Index(beside + v.Len() + k))
		}
		made.Set(whole.Slice(beside, beside+v.Len()))
		if holdsNoList(v.Type().Elem()) {
			reflect.Copy(made, v)
		} else {
			for k := range v.Len() {
				made.Index(k).Set(m.place(v.Index(k), width, fill))
			}
		}
		m.whole = append(m.whole, whole)
		m.before = append(m.before, plainValue(whole).Interface())
	case reflect.Struct:
		for k := range v.NumField() {
			made.Field(k).Set(m.place(v.Field(k), width, fill))
		}
	default:
		made.Set(v)
	}
	return made
}

func (m *memory) untouched() bool {
	for k, whole := range m.whole {
		if !reflect.DeepEqual(plainValue(whole).Interface(), m.before[k]) {
			return false
		}
	}
	return true
}

type span struct{ from, to uintptr }

func (s span) meets(o span) bool { return s.from < o.to && o.from < s.to }

// sharedWith tells whether any two lists of the answer, or one of them and an argument's memory, lie on one another.
func (m *memory) sharedWith(answer []any) bool {
	var own, taken []span
	for _, whole := range m.whole {
		taken = append(taken, spanOf(whole))
	}
	for _, v := range answer {
		own = append(own, spansIn(reflect.ValueOf(v))...)
	}
	for _, s := range own {
		for _, o := range taken {
			if s.meets(o) {
				return true
			}
		}
		taken = append(taken, s)
	}
	return false
}

// spanOf takes a list with all of its capacity: whoever appends to an answer writes there.
func spanOf(list reflect.Value) span {
	from := list.Pointer()
	return span{from, from + uintptr(list.Cap())*list.Type().Elem().Size()}
}

func spansIn(v reflect.Value) []span {
	var spans []span
	switch v.Kind() {
	case reflect.Slice:
		if v.Cap() == 0 {
			return nil
		}
		spans = append(spans, spanOf(v))
		if holdsNoList(v.Type().Elem()) {
			return spans
		}
		for k := range v.Len() {
			spans = append(spans, spansIn(v.Index(k))...)
		}
	case reflect.Struct:
		for k := range v.NumField() {
			spans = append(spans, spansIn(v.Field(k))...)
		}
	}
	return spans
}

func holdsNoList(t reflect.Type) bool {
	if t.Kind() != reflect.Struct {
		return t.Kind() != reflect.Slice
	}
	for k := range t.NumField() {
		if !holdsNoList(t.Field(k).Type) {
			return false
		}
	}
	return true
}

func fillStrange(v reflect.Value) {
	fillWith(v, 77777, "strange")
}

func fillSmall(v reflect.Value) {
	fillWith(v, 1, "a")
}

func fillWith(v reflect.Value, number int64, text string) {
	switch v.Kind() {
	case reflect.Int:
		v.SetInt(number)
	case reflect.String:
		v.SetString(text)
	case reflect.Bool:
		v.SetBool(true)
	case reflect.Struct:
		for k := range v.NumField() {
			fillWith(v.Field(k), number, text)
		}
	case reflect.Slice:
		v.Set(reflect.MakeSlice(v.Type(), 1, 1))
		fillWith(v.Index(0), number, text)
	}
}

// plainValue copies a value at every depth; the empty list becomes the nil list, for they are the same value.
func plainValue(v reflect.Value) reflect.Value {
	made := reflect.New(v.Type()).Elem()
	switch v.Kind() {
	case reflect.Slice:
		if v.Len() == 0 {
			return made
		}
		made.Set(reflect.MakeSlice(v.Type(), v.Len(), v.Len()))
		if holdsNoList(v.Type().Elem()) {
			reflect.Copy(made, v)
			return made
		}
		for k := range v.Len() {
			made.Index(k).Set(plainValue(v.Index(k)))
		}
	case reflect.Struct:
		for k := range v.NumField() {
			made.Field(k).Set(plainValue(v.Field(k)))
		}
	default:
		made.Set(v)
	}
	return made
}

func plainValues(values []any) []any {
	var plain []any
	for _, v := range values {
		plain = append(plain, plainValue(reflect.ValueOf(v)).Interface())
	}
	return plain
}

func sameValues(a, b []any) bool {
	return reflect.DeepEqual(plainValues(a), plainValues(b))
}
