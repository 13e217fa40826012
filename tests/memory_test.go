package tests

import (
	"cmp"
	"fmt"
	"reflect"
	"slices"
	"strings"
	"testing"
)

// image is all that v has, the spare room behind its lists, too.
func image(v any) string {
	var text strings.Builder
	var draw func(v reflect.Value)
	draw = func(v reflect.Value) {
		switch v.Kind() {
		case reflect.Slice:
			fmt.Fprintf(&text, "%d[", v.Len())
			for _, e := range v.Slice(0, v.Cap()).Seq2() {
				draw(e)
			}
			text.WriteString("]")
		case reflect.Struct:
			for i := range v.NumField() {
				draw(v.Field(i))
			}
		default:
			fmt.Fprintf(&text, "%#v,", v.Interface())
		}
	}
	draw(reflect.ValueOf(v))
	return text.String()
}

// filled is some value of a type that is not its zero value.
func filled(kind reflect.Type) reflect.Value {
	v := reflect.New(kind).Elem()
	switch kind.Kind() {
	case reflect.Int64:
		v.SetInt(77)
	case reflect.Bool:
		v.SetBool(true)
	case reflect.String:
		v.SetString("spare")
	case reflect.Slice:
		v = reflect.Append(v, filled(kind.Elem()))
	case reflect.Struct:
		for i := range kind.NumField() {
			v.Field(i).Set(filled(kind.Field(i).Type))
		}
	}
	return v
}

// withRoom is a copy of v in memory of its own, with room behind each list and something in it.
func withRoom[T any](v T) T {
	var copied func(v reflect.Value) reflect.Value
	copied = func(v reflect.Value) reflect.Value {
		out := reflect.New(v.Type()).Elem()
		switch v.Kind() {
		case reflect.Slice:
			out = reflect.MakeSlice(v.Type(), 0, v.Len()+2)
			for _, e := range v.Seq2() {
				out = reflect.Append(out, copied(e))
			}
			reflect.Append(out, filled(v.Type().Elem()), filled(v.Type().Elem()))
		case reflect.Struct:
			for i := range v.NumField() {
				out.Field(i).Set(copied(v.Field(i)))
			}
		default:
			out = v
		}
		return out
	}
	return copied(reflect.ValueOf(v)).Interface().(T)
}

// block is where a list lies, with its spare room.
type block struct{ from, to uintptr }

func blocksOf(v any) []block {
	var l []block
	var walk func(v reflect.Value)
	walk = func(v reflect.Value) {
		switch v.Kind() {
		case reflect.Slice:
			if v.Cap() > 0 {
				from := v.Pointer()
				l = append(l, block{from, from + uintptr(v.Cap())*v.Type().Elem().Size()})
			}
			for _, e := range v.Seq2() {
				walk(e)
			}
		case reflect.Struct:
			for i := range v.NumField() {
				walk(v.Field(i))
			}
		}
	}
	walk(reflect.ValueOf(v))
	return l
}

// checkApart: no list of an answer shares memory with another one of it, nor with an argument.
func checkApart(t *testing.T, answer any, args ...any) {
	t.Helper()
	all := blocksOf(answer)
	own := len(all)
	for _, a := range args {
		all = append(all, blocksOf(a)...)
	}
	for i, x := range all[:own] {
		for j, y := range all {
			if i != j && x.from < y.to && y.from < x.to {
				t.Fatalf("lists %d and %d share memory: %v", i, j, answer)
			}
		}
	}
}

// checkNew asks a function twice, of arguments with room: its answer is new memory, the same each time, and nothing is written into an argument.
func checkNew[T any](t *testing.T, ask func() T, args ...any) {
	t.Helper()
	var before []string
	for _, a := range args {
		before = append(before, image(a))
	}
	first := ask()
	checkApart(t, first, args...)
	second := ask()
	checkApart(t, []T{first, second}, args...)
	if a, b := fmt.Sprint(first), fmt.Sprint(second); a != b {
		t.Fatalf("not the same: %s and %s", a, b)
	}
	for i, a := range args {
		if image(a) != before[i] {
			t.Fatalf("written into argument %d: %v, not %s", i, a, before[i])
		}
	}
}

// The checks above themselves.
func TestChecksOfMemory(t *testing.T) {
	type pair struct{ A, B []int64 }
	x := withRoom(pair{A: []int64{1, 2}})
	if cap(x.A) != 4 || x.A[:4][3] != 77 || len(x.A) != 2 || len(x.B) != 0 || x.B[:1][0] != 77 {
		t.Error(x)
	}
	before := image(x)
	_ = append(x.A, 77)
	if image(x) != before {
		t.Error(image(x))
	}
	_ = append(x.A, 78)
	if image(x) == before {
		t.Error("not seen")
	}
	l := blocksOf(x)
	slices.SortFunc(l, func(a, b block) int { return cmp.Compare(a.from, b.from) })
	if len(l) != 2 || l[0].to > l[1].from {
		t.Error(l)
	}
	checkApart(t, x, withRoom(x))
	shared := &testing.T{}
	done := make(chan bool)
	go func() {
		defer close(done)
		checkApart(shared, pair{A: x.A[:1], B: x.A[2:2]})
	}()
	<-done
	if !shared.Failed() {
		t.Error("shared by two lists of one answer, not seen")
	}
}
