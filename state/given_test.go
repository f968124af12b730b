package state_test

import (
	"math"
	"math/rand"
	"reflect"
	"slices"
	"testing"

	"pupil/apart"
	"pupil/api"
	"pupil/state"
)

// The ends of the ints.
const (
	lowest  = math.MinInt
	highest = math.MaxInt
)

var (
	widths = []int{32, 64}
	ends   = []int{lowest, lowest + 1, -1 << 32, -1, 1 << 62, highest - 1, highest}
)

// pattern tells a number's bits of a width.
func pattern(f float64, width int) int {
	if width == 32 {
		return int(math.Float32bits(float32(f)))
	}
	return int(math.Float64bits(f))
}

// vals makes a matrix of numbers, some one of random numbers about 0, laid one of these bits.
func vals(rows, cols, width int, numbers ...float64) api.Matrix {
	m := api.Matrix{Rows: rows, Cols: cols, Width: width}
	for _, f := range numbers {
		m.Bits = append(m.Bits, pattern(f, width))
	}
	return m
}

func some(r *rand.Rand, rows, cols, width int) api.Matrix {
	m := vals(rows, cols, width)
	for range rows * cols {
		m.Bits = append(m.Bits, pattern(r.NormFloat64(), width))
	}
	return m
}

func laid(rows, cols, width int, bits ...int) api.Matrix {
	return api.Matrix{Rows: rows, Cols: cols, Width: width, Bits: bits}
}

// edges are finite floats of a width: noughts, the least and the greatest subnormal and normal ones, of both signs.
func edges(width int) []int {
	if width == 32 {
		l := []int{0, 1, 0x7FFFFF, 0x800000, 0x3F800000, 0x7F7FFFFF}
		for _, b := range l {
			l = append(l, b|1<<31)
		}
		return l
	}
	l := []int{0, 1, 1<<32 - 1, 1 << 32, 0xFFFFFFFFFFFFF, 0x10000000000000, 0x3FF0000000000000, 0x7FEFFFFFFFFFFFFF}
	for _, b := range l {
		l = append(l, b|-1<<63)
	}
	return l
}

// endless are floats of a width that are infinite or no number.
func endless(width int) []int {
	if width == 32 {
		return []int{0x7F800000, 0xFF800000, 0x7F800001, 0xFF800001, 0x7FC00000, api.NaN32, 0x7FFFFFFF, 0xFFFFFFFF}
	}
	return []int{0x7FF0000000000000, -0x10000000000000, 0x7FF0000000000001, -0xFFFFFFFFFFFFF, 0x7FF0000100000000, api.NaN, highest, -1}
}

// strange are ints that are no bits of width 32.
func strange() []int {
	return []int{-1, -1 << 31, 1 << 32, 1<<32 | 0x3F800000, -1<<32 | 0x3F800000, 1 << 62, lowest, highest}
}

// sample has matrices of both widths, and lists of several, of one and of none.
func sample() api.State {
	a, b := vals(1, 2, 64, 1, math.Copysign(0, -1)), laid(2, 1, 32, 0x3F800000, 1)
	c := vals(2, 2, 64, 1, -2, 0.5, 3)
	return apart.State(api.State{
		Step: 300, Epoch: 2, Batch: 1, Loss: -1, Rate: 5,
		Params: []api.Matrix{a, b, c},
		Slots:  [][]api.Matrix{{a, c, a}, nil, {b}},
	})
}

// states are states in form.
func states() []api.State {
	r := rand.New(rand.NewSource(23))
	l := []api.State{
		{}, sample(),
		{Step: api.MaxStep, Epoch: api.MaxStep, Batch: api.MaxStep, Loss: lowest, Rate: highest},
		{Step: 1, Epoch: 1 << 8, Batch: 1<<40 - 1, Loss: highest, Rate: lowest},
		{Step: 0x0102030405, Epoch: 0x0607080900, Batch: 0x0A0B0C0D0E, Loss: 0x0102030405060708, Rate: -0x0102030405060708},
		{Slots: [][]api.Matrix{nil, {}, nil}},
		{Slots: [][]api.Matrix{{laid(1, 1, 32, 0)}}},
	}
	var small, both, great, edge api.State
	for i := range api.MaxParams {
		small.Params = append(small.Params, some(r, 1, 1, widths[i%2]))
		var list []api.Matrix
		for k := range i % 5 {
			list = append(list, some(r, 1+k%2, 1+i%3, widths[k%2]))
		}
		both.Slots = append(both.Slots, list)
	}
	both.Params = apart.Matrices(small.Params)
	for _, w := range widths {
		great.Params = append(great.Params, some(r, 1, api.MaxElems, w), some(r, api.MaxElems, 1, w), some(r, 64, 64, w), some(r, 3, 1365, w))
		edge.Params = append(edge.Params, laid(1, len(edges(w)), w, edges(w)...))
		edge.Slots = append(edge.Slots, []api.Matrix{laid(len(edges(w)), 1, w, edges(w)...)})
	}
	l = append(l, small, both, great, edge)
	for range 8 {
		l = append(l, random(r))
	}
	return l
}

// random makes a small state in form.
func random(r *rand.Rand) api.State {
	s := api.State{Step: r.Intn(api.MaxStep + 1), Epoch: r.Intn(1 << r.Intn(40)), Batch: r.Intn(1 << r.Intn(40)), Loss: int(r.Uint64()), Rate: int(r.Uint64())}
	for range r.Intn(4) {
		s.Params = append(s.Params, some(r, 1+r.Intn(3), 1+r.Intn(3), widths[r.Intn(2)]))
	}
	for range r.Intn(4) {
		var list []api.Matrix
		for range r.Intn(5) {
			list = append(list, some(r, 1+r.Intn(3), 1+r.Intn(3), widths[r.Intn(2)]))
		}
		s.Slots = append(s.Slots, list)
	}
	return s
}

// greatest is the state in form that has the most bytes.
func greatest() api.State {
	m := laid(1, api.MaxElems, 64, make([]int, api.MaxElems)...)
	s := api.State{Params: slices.Repeat([]api.Matrix{m}, api.MaxParams)}
	s.Slots = slices.Repeat([][]api.Matrix{{m, m, m, m}}, api.MaxParams)
	return s
}

// sameState tells whether two states are one; a list that is empty is as good as none.
func sameState(a, b api.State) bool { return reflect.DeepEqual(bare(a), bare(b)) }

func bare(s api.State) api.State {
	s = apart.State(s)
	if len(s.Params) == 0 {
		s.Params = nil
	}
	if len(s.Slots) == 0 {
		s.Slots = nil
	}
	for i, l := range s.Slots {
		if len(l) == 0 {
			s.Slots[i] = nil
		}
	}
	return s
}

// written tells the bytes of a state, which are wanted.
func written(t *testing.T, s api.State) []byte {
	t.Helper()
	b, e := state.Write(s)
	if e != api.OK {
		t.Fatalf("Write: %v", e)
	}
	return b
}
