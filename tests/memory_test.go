package tests

import (
	"reflect"
	"slices"
	"testing"
)

// eachPart goes over the lists and fields of a value, one level down, with those behind the ends of lists if they are asked for.
func eachPart(v reflect.Value, behind bool, visit func(reflect.Value)) {
	switch v.Kind() {
	case reflect.Struct:
		for i := range v.NumField() {
			visit(v.Field(i))
		}
	case reflect.Slice:
		if behind {
			v = v.Slice(0, v.Cap())
		}
		for i := range v.Len() {
			visit(v.Index(i))
		}
	}
}

// same says whether two values are the same, an empty list and a nil one being so.
func same[T any](a, b T) bool {
	return alike(reflect.ValueOf(a), reflect.ValueOf(b))
}

func alike(a, b reflect.Value) bool {
	switch a.Kind() {
	case reflect.Struct:
		for i := range a.NumField() {
			if !alike(a.Field(i), b.Field(i)) {
				return false
			}
		}
		return true
	case reflect.Slice:
		if a.Len() != b.Len() {
			return false
		}
		for i := range a.Len() {
			if !alike(a.Index(i), b.Index(i)) {
				return false
			}
		}
		return true
	}
	return a.Equal(b)
}

// rebuilt is a copy of a value, its lists as told.
func rebuilt(v reflect.Value, list func(reflect.Value) reflect.Value) reflect.Value {
	out := reflect.New(v.Type()).Elem()
	switch v.Kind() {
	case reflect.Struct:
		for i := range v.NumField() {
			out.Field(i).Set(rebuilt(v.Field(i), list))
		}
	case reflect.Slice:
		out.Set(list(v))
	default:
		out.Set(v)
	}
	return out
}

// spread is a copy of a value in which each list has room behind its end, with something in it that may not be written over.
func spread[T any](value T) T {
	return rebuilt(reflect.ValueOf(value), spreadList).Interface().(T)
}

func spreadList(v reflect.Value) reflect.Value {
	all := reflect.MakeSlice(v.Type(), v.Len()+2, v.Len()+2)
	for i := range all.Len() {
		if i < v.Len() {
			all.Index(i).Set(rebuilt(v.Index(i), spreadList))
		} else {
			mark(all.Index(i))
		}
	}
	return all.Slice(0, v.Len())
}

// mark puts something into each field that no function would.
func mark(v reflect.Value) {
	switch v.Kind() {
	case reflect.Struct:
		eachPart(v, false, mark)
	case reflect.Slice:
		v.Set(reflect.MakeSlice(v.Type(), 1, 1))
		mark(v.Index(0))
	case reflect.String:
		v.SetString(sentinel)
	case reflect.Int:
		v.SetInt(-99)
	case reflect.Bool:
		v.SetBool(true)
	}
}

// whole is a copy of a value in which what stands behind the ends of its lists is in them.
func whole[T any](value T) T {
	return rebuilt(reflect.ValueOf(value), wholeList).Interface().(T)
}

func wholeList(v reflect.Value) reflect.Value {
	all := reflect.MakeSlice(v.Type(), v.Cap(), v.Cap())
	for i := range all.Len() {
		all.Index(i).Set(rebuilt(v.Slice(0, v.Cap()).Index(i), wholeList))
	}
	return all
}

// room is where a list has its things, what is spare included.
type room struct{ start, end uintptr }

// roomsOf are those of all lists of a value, and of what stands behind their ends.
func roomsOf(value any) []room {
	var list []room
	var visit func(v reflect.Value)
	visit = func(v reflect.Value) {
		if v.Kind() == reflect.Slice && v.Cap() > 0 {
			start := v.Pointer()
			list = append(list, room{start, start + uintptr(v.Cap())*v.Type().Elem().Size()})
		}
		eachPart(v, true, visit)
	}
	visit(reflect.ValueOf(value))
	return list
}

// newMemory says that an answer shares nothing with the arguments, and that no two of its lists do.
func newMemory(t *testing.T, what string, answer any, arguments ...any) {
	t.Helper()
	own := roomsOf(answer)
	var others []room
	for _, argument := range arguments {
		others = append(others, roomsOf(argument)...)
	}
	for i, r := range own {
		meets := func(other room) bool { return r.start < other.end && other.start < r.end }
		if slices.ContainsFunc(others, meets) {
			t.Errorf("%s: a list of the answer is in an argument's memory", what)
		}
		if slices.ContainsFunc(own[i+1:], meets) {
			t.Errorf("%s: two lists of the answer are in the same memory", what)
		}
	}
}

func TestMemoryHelpers(t *testing.T) {
	type leaf struct{ Texts []string }
	type tree struct {
		Number int
		Leaves []leaf
	}
	made := func() tree { return spread(tree{7, []leaf{{[]string{"a", "b"}}, {nil}}}) }
	a, b := made(), made()
	if !same(a, b) || !same(a, tree{7, []leaf{{[]string{"a", "b"}}, {[]string{}}}}) || same(a, tree{7, a.Leaves[:1]}) || same(a, tree{8, a.Leaves}) {
		t.Error("same")
	}
	if !same(whole(a), whole(b)) || same(whole(a), a) {
		t.Error("whole")
	}
	b.Leaves[1].Texts = append(b.Leaves[1].Texts, "c")[:0]
	if !same(a, b) || same(whole(a), whole(b)) {
		t.Error("what is written behind an end is not seen")
	}
	if got := len(roomsOf(a)); got != 1+4 {
		t.Errorf("%d rooms", got)
	}
}
