package apart

import (
	"reflect"
	"slices"
	"testing"
)

// fill fills a thing: each number of it is another one, each list has two things.
func fill(v reflect.Value, number *int) {
	switch v.Kind() {
	case reflect.Struct:
		for i := range v.NumField() {
			fill(v.Field(i), number)
		}
	case reflect.Slice:
		v.Set(reflect.MakeSlice(v.Type(), 2, 5))
		for i := range 2 {
			fill(v.Index(i), number)
		}
	case reflect.Bool:
		*number++
		v.SetBool(*number%2 == 0)
	default:
		*number++
		v.SetInt(int64(*number))
	}
}

// spans tells the memory of each list within a thing, spare room included.
func spans(v reflect.Value) [][2]uintptr {
	var l [][2]uintptr
	switch v.Kind() {
	case reflect.Struct:
		for i := range v.NumField() {
			l = append(l, spans(v.Field(i))...)
		}
	case reflect.Slice:
		for i := range v.Len() {
			l = append(l, spans(v.Index(i))...)
		}
		if v.Cap() > 0 {
			l = append(l, [2]uintptr{v.Pointer(), v.Pointer() + uintptr(v.Cap())*v.Type().Elem().Size()})
		}
	}
	return l
}

// wantAgain wants a function to make the same thing in memory of its own.
func wantAgain[T any](t *testing.T, what string, again func(T) T) {
	t.Helper()
	var given, other, none T
	number, same := 0, 0
	fill(reflect.ValueOf(&given).Elem(), &number)
	fill(reflect.ValueOf(&other).Elem(), &same)
	made := again(given)
	if !reflect.DeepEqual(made, other) || !reflect.DeepEqual(given, other) {
		t.Errorf("%s: %v of %v", what, made, given)
	}
	lists := spans(reflect.ValueOf(made))
	if len(lists) != len(spans(reflect.ValueOf(given))) {
		t.Errorf("%s: %d lists", what, len(lists))
	}
	lists = append(lists, spans(reflect.ValueOf(given))...)
	slices.SortFunc(lists, func(a, b [2]uintptr) int { return int(a[0]) - int(b[0]) })
	for i := range len(lists) - 1 {
		if lists[i+1][0] < lists[i][1] {
			t.Errorf("%s: two lists share memory", what)
		}
	}
	if len(spans(reflect.ValueOf(again(none)))) != 0 {
		t.Errorf("%s of nothing: %v", what, again(none))
	}
}

// TestApart: each call makes the same thing, in memory of its own.
func TestApart(t *testing.T) {
	wantAgain(t, "Matrix", Matrix)
	wantAgain(t, "Matrices", Matrices)
	wantAgain(t, "Tape", Tape)
	wantAgain(t, "Node", Node)
	wantAgain(t, "Plan", Plan)
	wantAgain(t, "Set", Set)
	wantAgain(t, "State", State)
	wantAgain(t, "Part", Part)
}
