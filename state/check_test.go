package state_test

import (
	"math/rand"
	"slices"
	"strconv"
	"testing"

	"pupil/apart"
	"pupil/api"
	"pupil/state"
)

// wantCheck wants Check's error of a state, and Write's with no bytes beside it; the chapter reckoned once more has to say so too.
func wantCheck(t *testing.T, what string, s api.State, want api.Errno) {
	t.Helper()
	if wantedForm(s) != (want == api.OK) {
		t.Fatalf("%s: the test is wrong", what)
	}
	if e := state.Check(s); e != want {
		t.Errorf("%s: Check tells %v, want %v", what, e, want)
	}
	b, e := state.Write(s)
	if e != want || e != api.OK && len(b) != 0 {
		t.Errorf("%s: Write tells %d bytes, %v, want %v", what, len(b), e, want)
	}
}

// is tells OK, if something holds, else ErrState.
func is(holds bool) api.Errno {
	if holds {
		return api.OK
	}
	return api.ErrState
}

// TestP2301InForm: states in form are taken.
func TestP2301InForm(t *testing.T) {
	for i, s := range states() {
		wantCheck(t, strconv.Itoa(i), s, api.OK)
	}
	wantCheck(t, "the greatest", greatest(), api.OK)
}

// TestP2301Steps: Step, Epoch and Batch from 0 to MaxStep, each alone.
func TestP2301Steps(t *testing.T) {
	for _, n := range slices.Concat(ends, []int{-1, 0, 1, api.MaxStep - 1, api.MaxStep, api.MaxStep + 1, 1 << 41, -api.MaxStep}) {
		for i := range 3 {
			for _, s := range []api.State{{}, sample()} {
				*[]*int{&s.Step, &s.Epoch, &s.Batch}[i] = n
				wantCheck(t, "number "+strconv.Itoa(i)+" is "+strconv.Itoa(n), s, is(n >= 0 && n <= api.MaxStep))
			}
		}
	}
}

// TestP2301Any: Loss and Rate are any ints.
func TestP2301Any(t *testing.T) {
	for _, n := range slices.Concat(ends, []int{0, 1, api.NaN, api.Inf, -1 << 63, api.MaxStep + 1}) {
		s := sample()
		s.Loss = n
		wantCheck(t, "Loss "+strconv.Itoa(n), s, api.OK)
		s = sample()
		s.Rate = n
		wantCheck(t, "Rate "+strconv.Itoa(n), s, api.OK)
	}
}

// TestP2301Counts: how many matrices and lists there are, each alone.
func TestP2301Counts(t *testing.T) {
	one := vals(1, 1, 64, 1)
	for n := range 140 {
		what := strconv.Itoa(n)
		many := slices.Repeat([]api.Matrix{one}, n)
		wantCheck(t, what+" Params", api.State{Params: many}, is(n <= 64))
		wantCheck(t, what+" lists", api.State{Slots: make([][]api.Matrix, n)}, is(n <= 64))
		wantCheck(t, what+" matrices in the only list", api.State{Slots: [][]api.Matrix{many}}, is(n <= 4))
		for _, place := range []int{0, 31, 63} {
			s := api.State{Params: []api.Matrix{one}, Slots: make([][]api.Matrix, 64)}
			s.Slots[place] = many
			wantCheck(t, what+" matrices in list "+strconv.Itoa(place), s, is(n <= 4))
		}
	}
	wantCheck(t, "one Param too many beside lists", api.State{Params: slices.Repeat([]api.Matrix{one}, 65), Slots: [][]api.Matrix{{one}}}, api.ErrState)
	wantCheck(t, "more Params than two bytes count", api.State{Params: slices.Repeat([]api.Matrix{one}, 1<<16+1)}, api.ErrState)
	wantCheck(t, "more lists than two bytes count", api.State{Slots: make([][]api.Matrix, 1<<16)}, api.ErrState)
	wantCheck(t, "more matrices than a byte counts", api.State{Slots: [][]api.Matrix{slices.Repeat([]api.Matrix{one}, 256)}}, api.ErrState)
}

// five is a state with five Params and five lists of four, all of them one matrix, each in memory of its own.
func five(m api.Matrix) api.State {
	s := api.State{Params: slices.Repeat([]api.Matrix{m}, 5)}
	s.Slots = slices.Repeat([][]api.Matrix{slices.Repeat([]api.Matrix{m}, 4)}, 5)
	return apart.State(s)
}

// wantMatrix wants Check's error of states in which one matrix is another one: among the parameters and in the lists, first, in the middle and last.
func wantMatrix(t *testing.T, what string, m api.Matrix, want api.Errno) {
	t.Helper()
	for _, w := range widths {
		for _, place := range []int{0, 2, 4} {
			s := five(vals(1, 1, w, 1))
			s.Params[place] = m
			wantCheck(t, what+": parameter "+strconv.Itoa(place), s, want)
			for k := range 4 {
				s = five(vals(1, 1, w, 1))
				s.Slots[place][k] = m
				wantCheck(t, what+": list "+strconv.Itoa(place)+", "+strconv.Itoa(k), s, want)
			}
		}
	}
	wantCheck(t, what+" alone", api.State{Params: []api.Matrix{m}}, want)
	wantCheck(t, what+" alone in a list", api.State{Slots: [][]api.Matrix{{m}}}, want)
}

// TestP2301Width: widths that are none.
func TestP2301Width(t *testing.T) {
	for _, w := range slices.Concat(ends, []int{0, 1, 8, 16, 31, 33, 63, 65, 96, 128, 256 + 32, 256 + 64, -32, -64}) {
		wantMatrix(t, "width "+strconv.Itoa(w), laid(1, 1, w, 0), api.ErrState)
	}
	for _, w := range widths {
		wantMatrix(t, "width "+strconv.Itoa(w), laid(1, 1, w, 0), api.OK)
	}
}

// TestP2301Sides: Rows and Cols, and what comes of both.
func TestP2301Sides(t *testing.T) {
	r := rand.New(rand.NewSource(2301))
	for _, w := range widths {
		for _, n := range slices.Concat(ends, []int{0, -1, -2, 1<<32 + 1, 1<<16 + 1}) {
			what := strconv.Itoa(n) + " of width " + strconv.Itoa(w)
			wantMatrix(t, "Rows "+what, laid(n, 1, w, 0), api.ErrState)
			wantMatrix(t, "Cols "+what, laid(1, n, w, 0), api.ErrState)
			wantMatrix(t, "both "+what, laid(n, n, w, 0), api.ErrState)
			wantMatrix(t, "no Bits, Rows "+what, laid(n, 1, w), api.ErrState)
			wantMatrix(t, "no Bits, Cols "+what, laid(1, n, w), api.ErrState)
		}
		wantMatrix(t, "both below 0", laid(-1, -2, w, 0, 0), api.ErrState)
		for _, x := range []struct {
			rows, cols int
			want       api.Errno
		}{
			{1, 4096, api.OK}, {4096, 1, api.OK}, {64, 64, api.OK}, {3, 1365, api.OK}, {2, 2048, api.OK},
			{1, 4097, api.ErrState}, {4097, 1, api.ErrState}, {17, 241, api.ErrState}, {241, 17, api.ErrState}, {65, 64, api.ErrState}, {2, 2049, api.ErrState}, {1, 1 << 16, api.ErrState}, {1<<16 + 1, 1, api.ErrState},
		} {
			wantMatrix(t, strconv.Itoa(x.rows)+" by "+strconv.Itoa(x.cols), some(r, x.rows, x.cols, w), x.want)
		}
	}
}

// TestP2301Wrapped: sides whose product only goes round to how many Bits there are.
func TestP2301Wrapped(t *testing.T) {
	third := 6148914691236517206 // three of them are 2^64 and 2
	for _, x := range [][2]int{{1 << 32, 1 << 32}, {1 << 62, 4}, {4, 1 << 62}, {1 << 33, 1 << 31}, {lowest, 2}, {2, lowest}, {3, third}, {third, 3}, {highest, highest}, {-1, -1}, {-3, -2}, {1<<32 + 1, 1 << 32 * 2}} {
		bits := x[0] * x[1]
		if bits < 0 || bits > api.MaxElems {
			bits = 0
		}
		for _, w := range widths {
			wantMatrix(t, strconv.Itoa(x[0])+" by "+strconv.Itoa(x[1]), laid(x[0], x[1], w, make([]int, bits)...), api.ErrState)
		}
	}
}

// TestP2301Bits: too few and too many Bits.
func TestP2301Bits(t *testing.T) {
	for _, w := range widths {
		for n := range 16 {
			wantMatrix(t, strconv.Itoa(n)+" Bits", laid(2, 3, w, make([]int, n)...), is(n == 6))
		}
		wantMatrix(t, "one too many", laid(64, 64, w, make([]int, 4097)...), api.ErrState)
		wantMatrix(t, "one too few", laid(64, 64, w, make([]int, 4095)...), api.ErrState)
	}
}

// TestP2301Elements: elements that are finite, infinite, no number, and none of their width, at each place.
func TestP2301Elements(t *testing.T) {
	for _, w := range widths {
		bad := endless(w)
		if w == 32 {
			bad = slices.Concat(bad, strange())
		}
		for place := range 6 {
			turned := func(b int) api.Matrix {
				m := vals(2, 3, w, 1, 2, 3, 4, 5, 6)
				m.Bits[place] = b
				return m
			}
			for _, b := range bad {
				wantMatrix(t, strconv.Itoa(b)+" of width "+strconv.Itoa(w), turned(b), api.ErrState)
			}
			for _, b := range edges(w) {
				wantMatrix(t, strconv.Itoa(b)+" of width "+strconv.Itoa(w), turned(b), api.OK)
			}
		}
	}
	// The bits of binary32's infinity and of its no numbers are finite of width 64.
	wantMatrix(t, "binary32's", laid(1, 8, 64, endless(32)...), api.OK)
}

// TestP2301Long: a state with more bytes than there is room for. MaxState has room for every state in form, so that the limit is tried with less room.
func TestP2301Long(t *testing.T) {
	for i, s := range states() {
		size := len(wantedBytes(s))
		for _, x := range []struct {
			room int
			want api.Errno
		}{{size, api.OK}, {size + 1, api.OK}, {size - 1, api.ErrLong}, {0, api.ErrLong}} {
			if e := state.CheckIn(s, x.room); e != x.want {
				t.Errorf("%d: %v in %d bytes of %d, want %v", i, e, x.room, size, x.want)
			}
		}
		for _, w := range widths {
			more := s
			more.Slots = append(slices.Clone(s.Slots), []api.Matrix{vals(1, 1, w, 1)})
			if len(more.Slots) <= api.MaxParams && (state.CheckIn(more, size) != api.ErrLong || state.CheckIn(more, size+6+w/8) != api.OK) {
				t.Errorf("%d: one matrix more: %v", i, state.CheckIn(more, size))
			}
		}
		s.Batch = -1
		if e := state.CheckIn(s, 0); e != api.ErrState {
			t.Errorf("%d: %v ahead of ErrState", i, e)
		}
	}
	if size := len(written(t, greatest())); size != 10487476 || size > api.MaxState {
		t.Errorf("%d bytes", size)
	}
}

// TestP2301First: ErrState comes ahead of ErrLong.
func TestP2301First(t *testing.T) {
	great := laid(1, api.MaxElems, 64, make([]int, api.MaxElems)...)
	wantCheck(t, "too many Params", api.State{Params: slices.Repeat([]api.Matrix{great}, 600)}, api.ErrState)
	wantCheck(t, "too many in a list", api.State{Slots: slices.Repeat([][]api.Matrix{slices.Repeat([]api.Matrix{great}, 9)}, 64)}, api.ErrState)
	wantCheck(t, "too many lists", api.State{Slots: slices.Repeat([][]api.Matrix{{great, great}}, 300)}, api.ErrState)
	wantCheck(t, "too many elements", api.State{Params: []api.Matrix{laid(1<<10, 1<<12, 64, make([]int, 1<<22)...)}}, api.ErrState)
	s := greatest()
	s.Step = -1
	wantCheck(t, "Step -1", s, api.ErrState)
}
