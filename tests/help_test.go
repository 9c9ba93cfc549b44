package tests

import (
	"fmt"
	"math"
	"reflect"
	"strconv"
	"strings"
	"testing"
)

// farOff are numbers that no limit of the document allows, near to where sums wrap round.
var farOff = []int{math.MinInt, math.MinInt + 1, math.MaxInt - 7, math.MaxInt - 1, math.MaxInt}

// numbersFrom gives the same run of numbers below n at each run of the tests.
func numbersFrom(seed uint64) func(n int) int {
	return func(n int) int {
		seed = seed*6364136223846793005 + 1442695040888963407
		return int(seed>>33) % n
	}
}

// ask calls f twice and fails if it panics, writes into an argument, shares memory
// with one, between two lists of its answer or between its two answers, or looks
// behind a list's length.
func ask(t *testing.T, f any, args ...any) []any {
	t.Helper()
	plain := askOnce(t, f, args)
	spare := make([]any, len(args))
	for k, a := range args {
		spare[k] = withSpare(reflect.ValueOf(a)).Interface()
	}
	roomy := askOnce(t, f, spare)
	refuseShared(t, "the answer of another call", valuesOf(plain), valuesOf(roomy))
	if tell(plain...) != tell(roomy...) {
		t.Fatalf("%s: what lies behind a list's length tells: %s, with it %s", tell(args...), tell(plain...), tell(roomy...))
	}
	return plain
}

func askOnce(t *testing.T, f any, args []any) (answers []any) {
	t.Helper()
	defer func() {
		if r := recover(); r != nil {
			t.Fatalf("%s: panic: %v", tell(args...), r)
		}
	}()
	in := valuesOf(args)
	before := make([]string, len(args))
	for k, v := range in {
		before[k] = textOf(v, true)
	}
	out := reflect.ValueOf(f).Call(in)
	for k, v := range in {
		if now := textOf(v, true); now != before[k] {
			t.Fatalf("argument %d was written into: %s is %s now", k, before[k], now)
		}
	}
	refuseShared(t, "an argument", in, out)
	for _, v := range out {
		answers = append(answers, v.Interface())
	}
	return answers
}

func valuesOf(l []any) []reflect.Value {
	values := make([]reflect.Value, len(l))
	for k, a := range l {
		values[k] = reflect.ValueOf(a)
	}
	return values
}

// want fails where f's answer is not what is said.
func want(t *testing.T, said []any, f any, args ...any) {
	t.Helper()
	if got := ask(t, f, args...); tell(got...) != tell(said...) {
		t.Fatalf("of %s: %s, not %s", tell(args...), tell(got...), tell(said...))
	}
}

// wantZero fails where f's answer is not the zero answer.
func wantZero(t *testing.T, f any, args ...any) {
	t.Helper()
	var zeros []any
	for k := range reflect.TypeOf(f).NumOut() {
		zeros = append(zeros, reflect.Zero(reflect.TypeOf(f).Out(k)).Interface())
	}
	want(t, zeros, f, args...)
}

// tell writes values out; the nil list and the empty one are alike in it.
func tell(l ...any) string {
	var parts []string
	for _, a := range l {
		parts = append(parts, textOf(reflect.ValueOf(a), false))
	}
	return strings.Join(parts, ", ")
}

// textOf writes a value out; with behind set, also what lies behind each list's length.
func textOf(v reflect.Value, behind bool) string {
	return string(appendText(nil, v, behind))
}

// appendText writes into one growing text: a test of many calls spends most of its time here.
func appendText(text []byte, v reflect.Value, behind bool) []byte {
	switch v.Kind() {
	case reflect.Slice:
		if behind {
			v = v.Slice(0, v.Cap())
		}
		text = append(text, '[')
		for k := range v.Len() {
			if k > 0 {
				text = append(text, ' ')
			}
			text = appendText(text, v.Index(k), behind)
		}
		return append(text, ']')
	case reflect.Struct:
		text = append(text, '{')
		for k := range v.NumField() {
			if k > 0 {
				text = append(text, ' ')
			}
			text = appendText(text, v.Field(k), behind)
		}
		return append(text, '}')
	case reflect.Int:
		return strconv.AppendInt(text, v.Int(), 10)
	}
	return fmt.Appendf(text, "%#v", v.Interface())
}

// withSpare copies a value so that each list of it has room behind its length, filled with what is not good.
func withSpare(v reflect.Value) reflect.Value {
	c := reflect.New(v.Type()).Elem()
	switch v.Kind() {
	case reflect.Slice:
		roomy := reflect.MakeSlice(v.Type(), v.Len()+2, v.Len()+2)
		for k := range v.Len() {
			roomy.Index(k).Set(withSpare(v.Index(k)))
		}
		spoil(roomy.Index(v.Len()))
		spoil(roomy.Index(v.Len() + 1))
		c.Set(roomy.Slice(0, v.Len()))
	case reflect.Struct:
		for k := range v.NumField() {
			c.Field(k).Set(withSpare(v.Field(k)))
		}
	default:
		c.Set(v)
	}
	return c
}

func spoil(v reflect.Value) {
	switch v.Kind() {
	case reflect.Int:
		v.SetInt(-77)
	case reflect.Bool:
		v.SetBool(true)
	case reflect.Struct:
		for k := range v.NumField() {
			spoil(v.Field(k))
		}
	case reflect.Slice:
		v.Set(reflect.MakeSlice(v.Type(), 1, 1))
		spoil(v.Index(0))
	}
}

// stretch is the memory of a list, up to its capacity.
type stretch struct {
	from, to uintptr
}

func stretchesOf(v reflect.Value) []stretch {
	var l []stretch
	switch v.Kind() {
	case reflect.Slice:
		if size := uintptr(v.Cap()) * v.Type().Elem().Size(); size > 0 {
			l = append(l, stretch{v.Pointer(), v.Pointer() + size})
		}
		v = v.Slice(0, v.Cap())
		for k := range v.Len() {
			l = append(l, stretchesOf(v.Index(k))...)
		}
	case reflect.Struct:
		for k := range v.NumField() {
			l = append(l, stretchesOf(v.Field(k))...)
		}
	}
	return l
}

// refuseShared fails where two lists of out are in one memory, or one of them in that of others.
func refuseShared(t *testing.T, whose string, others, out []reflect.Value) {
	t.Helper()
	var theirs, answers []stretch
	for _, v := range others {
		theirs = append(theirs, stretchesOf(v)...)
	}
	for _, v := range out {
		answers = append(answers, stretchesOf(v)...)
	}
	for k, a := range answers {
		for _, b := range theirs {
			if a.from < b.to && b.from < a.to {
				t.Fatal("an answer shares memory with " + whose)
			}
		}
		for _, b := range answers[:k] {
			if a.from < b.to && b.from < a.to {
				t.Fatal("two lists of one answer share memory")
			}
		}
	}
}
