package state_test

import (
	"bytes"
	"reflect"
	"slices"
	"sync"
	"testing"

	"pupil/api"
	"pupil/state"
)

// roomy makes the same thing, each list of it laid into a longer one, with something ahead of it and room behind it; the longer ones are kept.
func roomy(v reflect.Value, kept *[]reflect.Value) reflect.Value {
	switch v.Kind() {
	case reflect.Struct:
		made := reflect.New(v.Type()).Elem()
		for i := range v.NumField() {
			made.Field(i).Set(roomy(v.Field(i), kept))
		}
		return made
	case reflect.Slice:
		n := v.Len()
		full := reflect.MakeSlice(v.Type(), n+5, n+5)
		spoil(full)
		for i := range n {
			full.Index(2 + i).Set(roomy(v.Index(i), kept))
		}
		*kept = append(*kept, full)
		return full.Slice(2, 2+n)
	}
	return v
}

// inRoom makes a state, or bytes, once more in that way, and tells the lists of it.
func inRoom[T any](x T) (T, []reflect.Value) {
	var kept []reflect.Value
	return roomy(reflect.ValueOf(x), &kept).Interface().(T), kept
}

// all tells what stands in lists, in memory of its own.
func all(lists []reflect.Value) []any {
	var l []any
	var ignored []reflect.Value
	for _, v := range lists {
		l = append(l, roomy(v, &ignored).Interface())
	}
	return l
}

// eachList goes over all lists within a thing, the inner ones first.
func eachList(v reflect.Value, do func(list reflect.Value)) {
	switch v.Kind() {
	case reflect.Struct:
		for i := range v.NumField() {
			eachList(v.Field(i), do)
		}
	case reflect.Slice:
		for i := range v.Len() {
			eachList(v.Index(i), do)
		}
		do(v)
	}
}

// spoil writes over all lists within a thing, and their spare room.
func spoil(v reflect.Value) {
	eachList(v, func(list reflect.Value) {
		full := list.Slice(0, list.Cap())
		for i := range full.Len() {
			switch x := full.Index(i); x.Kind() {
			case reflect.Int:
				x.SetInt(-99)
			case reflect.Uint8:
				x.SetUint(x.Uint() ^ 0x99)
			default:
				x.SetZero()
			}
		}
	})
}

// wantApart wants no two lists within these things to share memory, spare room included.
func wantApart(t *testing.T, what string, things ...any) {
	t.Helper()
	var spans [][2]uintptr
	for _, x := range things {
		eachList(reflect.ValueOf(x), func(list reflect.Value) {
			if size := uintptr(list.Cap()) * list.Type().Elem().Size(); size > 0 {
				spans = append(spans, [2]uintptr{list.Pointer(), list.Pointer() + size})
			}
		})
	}
	slices.SortFunc(spans, func(a, b [2]uintptr) int {
		if a[0] < b[0] {
			return -1
		}
		return 1
	})
	for i := range max(0, len(spans)-1) {
		if spans[i+1][0] < spans[i][1] {
			t.Errorf("%s: two lists share memory", what)
			return
		}
	}
}

// TestP2306Given: what is handed in is not changed, what stands about it neither.
func TestP2306Given(t *testing.T) {
	bad := sample()
	bad.Slots[2][0].Bits[1] = api.Inf32
	for i, s := range append(states(), bad) {
		s, kept := inRoom(s)
		before := all(kept)
		state.Check(s)
		b, _ := state.Write(s)
		if !reflect.DeepEqual(all(kept), before) {
			t.Errorf("%d: a state is changed", i)
		}
		for _, b := range [][]byte{b, append(bytes.Clone(b), 1), b[:len(b)/2]} {
			b, kept := inRoom(b)
			before := all(kept)
			state.Read(b)
			state.Sum(b)
			if !reflect.DeepEqual(all(kept), before) {
				t.Errorf("%d: bytes are changed", i)
			}
		}
	}
}

// TestP2306Apart: no two lists of an answer, of two answers, and of what was handed in, share memory, spare room included.
func TestP2306Apart(t *testing.T) {
	for _, s := range states() {
		s, _ := inRoom(s)
		b, c := written(t, s), written(t, s)
		wantApart(t, "Write", s, b, c)
		x, _, _ := state.Read(b)
		y, _, _ := state.Read(b)
		wantApart(t, "Read", s, b, c, x, y)
	}
}

// TestP2306One: one list that is handed in at several places comes back as lists of their own.
func TestP2306One(t *testing.T) {
	m := vals(1, 2, 64, 1, 2)
	l := []api.Matrix{m, m}
	s, _, e := state.Read(written(t, api.State{Params: l, Slots: [][]api.Matrix{l, l}}))
	wantApart(t, "one list", s, m)
	if e != api.OK || len(s.Slots) != 2 || len(s.Slots[1]) != 2 {
		t.Errorf("%v, %v", s, e)
	}
}

// TestP2306Kept: what is done to what was handed in, or to an answer, turns nothing that is told later.
func TestP2306Kept(t *testing.T) {
	for i, s := range states() {
		given, _ := inRoom(s)
		b := written(t, given)
		want := bytes.Clone(b)
		spoil(reflect.ValueOf(given))
		if !bytes.Equal(b, want) {
			t.Errorf("%d: bytes hang on the state", i)
		}
		x, _, _ := state.Read(b)
		spoil(reflect.ValueOf(b))
		if !sameState(x, s) {
			t.Errorf("%d: a state hangs on the bytes", i)
		}
		y, _, _ := state.Read(want)
		spoil(reflect.ValueOf(x))
		if !sameState(y, s) || !bytes.Equal(written(t, s), want) {
			t.Errorf("%d: an answer hangs on another one", i)
		}
	}
}

// TestP2306Again: the same call tells the same again, also from several goroutines at once.
func TestP2306Again(t *testing.T) {
	all := states()
	var want [][]byte
	for _, s := range all {
		want = append(want, wantedBytes(s))
	}
	var group sync.WaitGroup
	for range 4 {
		group.Go(func() {
			for range 2 {
				for i, s := range all {
					b, e := state.Write(s)
					x, at, f := state.Read(want[i])
					_, place, g := state.Read(want[i][:len(want[i])-2])
					if e != api.OK || f != api.OK || at != 0 || state.Check(s) != api.OK || state.Sum(b) != wantedSum(b) {
						t.Errorf("%d: %v, %v", i, e, f)
					}
					if !bytes.Equal(b, want[i]) || !sameState(x, s) || place != len(want[i])-2 || g != api.ErrEnd {
						t.Errorf("%d: another answer", i)
					}
				}
			}
		})
	}
	group.Wait()
}
