package part_test

import (
	"math"
	"math/rand"
	"slices"
	"strconv"
	"testing"

	"pupil/api"
)

// TestP2002Fits: Fits' errors come ahead of all, whatever the parameters and rows are.
func TestP2002Fits(t *testing.T) {
	for _, w := range widths {
		for _, f := range flaws(w) {
			s := flawed(w, f)
			bad := s.matrices()
			bad[0] = api.Matrix{}
			for _, params := range [][]api.Matrix{s.matrices(), nil, bad} {
				for _, rows := range [][]int{{0, 1}, nil, {-1}, make([]int, 257)} {
					wantNone(t, f.name, s.plan(), params, s.set, rows, f.e)
				}
			}
		}
	}
}

// badParams are matrices that can't be the parameter p, in the order in which they are refused: those of one rank are not told apart.
type badParam struct {
	rank int
	m    api.Matrix
	e    api.Errno
}

func badParams(p api.Matrix) []badParam {
	var l []badParam
	for _, bad := range misshapes() {
		l = append(l, badParam{0, bad.m, bad.e})
	}
	r, v := rand.New(rand.NewSource(1)), otherOf(p.Width)
	for at := range p.Bits {
		for _, b := range notFinite(p.Width) {
			l = append(l, badParam{0, with(p, at, b), refusal(b, p.Width)})
		}
	}
	last := len(p.Bits) - 1
	l = append(l, badParam{0, with(with(p, last, api.NaN32), 0, infinityOf(p.Width)), api.ErrInf})
	if p.Width == 64 {
		l = append(l, badParam{0, with(some(r, 4, 4, 32), 15, 1<<32), api.ErrBits})
	}
	l = append(l,
		badParam{0, with(some(r, p.Rows, p.Cols, v), last, infinityOf(v)), api.ErrInf}, badParam{0, with(some(r, 4, 4, v), 15, noneOf(v)), api.ErrNaN},
		badParam{1, some(r, p.Rows, p.Cols, v), api.ErrWidth}, badParam{1, some(r, p.Rows+1, p.Cols, v), api.ErrWidth}, badParam{1, some(r, 64, 64, v), api.ErrWidth},
		badParam{2, some(r, p.Rows+1, p.Cols, p.Width), api.ErrShape}, badParam{2, some(r, p.Rows, p.Cols+1, p.Width), api.ErrShape}, badParam{2, some(r, 64, 64, p.Width), api.ErrShape},
	)
	if p.Rows != p.Cols {
		l = append(l, badParam{2, some(r, p.Cols, p.Rows, p.Width), api.ErrShape})
	}
	return l
}

// TestP2002Params: how many they are, then of each whether it is in form and finite, its width, its shape; of several the first one.
func TestP2002Params(t *testing.T) {
	for _, w := range widths {
		s := rightSketch(w)
		p, good := s.plan(), s.matrices()
		rows := [][]int{{0, 3}, nil, {-1}, {4}, make([]int, 257)}
		for _, params := range [][]api.Matrix{nil, good[:1], good[:4], append(good, good[0]), slices.Concat(good, good), good[1:], make([]api.Matrix, 4), make([]api.Matrix, 70)} {
			for _, l := range rows {
				wantNone(t, strconv.Itoa(len(params))+" parameters", p, params, s.set, l, api.ErrParam)
			}
		}
		for i := range good {
			for _, bad := range badParams(good[i]) {
				params := slices.Clone(good)
				params[i] = bad.m
				for _, l := range rows {
					wantNone(t, "parameter "+strconv.Itoa(i), p, params, s.set, l, bad.e)
				}
				for k := i + 1; k < len(good); k++ {
					for _, other := range badParams(good[k]) {
						params[k] = other.m
						wantNone(t, "parameter "+strconv.Itoa(i)+" ahead of "+strconv.Itoa(k), p, params, s.set, []int{0}, bad.e)
						params[k] = good[k]
					}
				}
			}
		}
	}
}

// TestP2002Rows: none, as many as a batch may have, one more; those that don't rise, or are none.
func TestP2002Rows(t *testing.T) {
	r := rand.New(rand.NewSource(4))
	for _, w := range widths {
		p, params := linear(w)
		s := api.Set{X: some(r, 300, 1, w), Y: some(r, 300, 1, w)}
		for _, rows := range [][]int{nil, {}, make([]int, 0, 9)} {
			wantNone(t, "no rows", p, params, s, rows, api.ErrNone)
		}
		for _, rows := range [][]int{{0}, {299}, {0, 299}, upTo(2), upTo(255), upTo(256), upTo(300)[44:], upTo(300)[20:276], {1, 5, 100, 101, 298}} {
			if _, _, e := wantOf(t, "rows", p, params, s, rows); e != api.OK {
				t.Errorf("%v: %v", rows, e)
			}
		}
		for _, rows := range [][]int{upTo(257), upTo(300), make([]int, 257), slices.Repeat([]int{-1}, 257), slices.Repeat(ends, 40), make([]int, 70000)} {
			wantNone(t, strconv.Itoa(len(rows))+" rows", p, params, s, rows, api.ErrLong)
		}
		for _, rows := range [][]int{{1, 0}, {0, 0}, {299, 299}, {0, 2, 1}, {0, 1, 2, 2}, {5, 5, 6, 7}, {2, 3, 1, 4}, {-1}, {-1, 0}, {0, -1}, {300}, {0, 300}, {0, 1, 2, 301}, {300, 0}, {-2, -1}, make([]int, 256), append(upTo(255), 0), append(upTo(255), 300), append([]int{-1}, upTo(255)...)} {
			wantNone(t, "rows that are none", p, params, s, rows, api.ErrRow)
		}
		for _, n := range ends {
			for _, rows := range [][]int{{n}, {0, n}, {n, 0}, {n, n}} {
				wantNone(t, "rows at the ends", p, params, s, rows, api.ErrRow)
			}
		}
		one := api.Set{X: some(r, 1, 1, w), Y: some(r, 1, 1, w)}
		wantOf(t, "the one row", p, params, one, []int{0})
		wantNone(t, "behind the one row", p, params, one, []int{1}, api.ErrRow)
		wantNone(t, "behind the one row", p, params, one, []int{0, 1}, api.ErrRow)
		most := api.Set{X: some(r, 4096, 1, w), Y: some(r, 4096, 1, w)}
		wantOf(t, "the last rows", p, params, most, upTo(4096)[3840:])
		wantNone(t, "behind the last row", p, params, most, []int{4095, 4096}, api.ErrRow)
	}
}

// TestP2002Early: no row stops what is refused ahead of the rows, even if it would.
func TestP2002Early(t *testing.T) {
	p, s := example()
	great := []api.Matrix{vals(1, 1, 64, 1e200)}
	for _, c := range []struct {
		rows []int
		e    api.Errno
	}{{nil, api.ErrNone}, {make([]int, 257), api.ErrLong}, {[]int{0, 0}, api.ErrRow}, {[]int{0, 3}, api.ErrRow}} {
		wantNone(t, "rows that would stop", p, great, s, c.rows, c.e)
	}
}

// TestP2002Told: parts of mixed plans, of one row, of some, of all.
func TestP2002Told(t *testing.T) {
	r := rand.New(rand.NewSource(2002))
	for _, w := range widths {
		p := mixed(w)
		for range 12 {
			count := 1 + r.Intn(20)
			s, params := mixedSet(r, count, w), mixedParams(r, w)
			for row := range count {
				wantOf(t, "one row", p, params, s, []int{row})
			}
			wantOf(t, "all rows", p, params, s, upTo(count))
			rows := r.Perm(count)[:1+r.Intn(count)]
			slices.Sort(rows)
			got, _, e := wantOf(t, "some rows", p, params, s, rows)
			if e != api.OK || len(got.Grads) != 4 || len(got.Grads[0]) != 6 || len(got.Grads[3]) != 4 {
				t.Errorf("%v, %v", got, e)
			}
		}
		for node := 9; node < 13; node++ { // Every number of the tape as the loss.
			p.Loss, p.Out = node, r.Intn(15)
			wantOf(t, "loss "+strconv.Itoa(node), p, mixedParams(r, w), mixedSet(r, 5, w), []int{0, 2, 3})
		}
		many := mixedSet(r, 1000, w)
		wantOf(t, "many rows", mixed(w), mixedParams(r, w), many, upTo(1000)[700:956])
	}
}

// TestP2002Else: what else a plan says turns nothing, nor does its Out.
func TestP2002Else(t *testing.T) {
	r := rand.New(rand.NewSource(5))
	for _, w := range widths {
		p, params, s := mixed(w), mixedParams(r, w), mixedSet(r, 3, w)
		for range 50 {
			p.Out = r.Intn(15)
			wantOf(t, "strewn", strewn(r, p), params, s, []int{0, 2})
		}
	}
}

// TestP2002Bare: a plan without parameters, and losses that are an input, a constant, a parameter.
func TestP2002Bare(t *testing.T) {
	for _, w := range widths {
		bare := planOf(0, 1, input(0, 1, 1, w), input(1, 1, 1, w), constant(vals(1, 1, otherOf(w), 0.75)))
		s := api.Set{X: vals(3, 1, w, 1, 2, 3), Y: vals(3, 1, w, 10, 20, 0.5)}
		for loss, want := range []power{whole(6, 0), whole(61, -1), whole(9, -2)} {
			bare.Loss = loss
			got, _, e := wantOf(t, "no parameters", bare, nil, s, upTo(3))
			if e != api.OK || len(got.Grads) != 0 || !samePart(got, api.Part{Rows: upTo(3), Loss: want.acc()}) {
				t.Errorf("loss %d: %v, %v", loss, got, e)
			}
		}
		itself := planOf(0, 2, input(0, 1, 1, w), input(1, 1, 1, w), param(0, 1, 1, otherOf(w)))
		got, _, _ := wantOf(t, "a parameter itself", itself, []api.Matrix{vals(1, 1, otherOf(w), -5)}, s, upTo(3))
		if !samePart(got, api.Part{Rows: upTo(3), Loss: whole(-15, 0).acc(), Grads: [][]api.Acc{{whole(3, 0).acc()}}}) {
			t.Errorf("a parameter itself: %v", got)
		}
	}
}

// exactCase is losses of rows, whose sum no float may be.
type exactCase struct {
	losses []float64
	sum    power
}

func exactCases(w int) []exactCase {
	great, least := value(greatestOf(w), w), value(1, w)
	top, low, places := 1024, -1074, 53
	if w == 32 {
		top, low, places = 128, -149, 24
	}
	greatest := power{whole(1, places).n, top - places}
	greatest.n = greatest.n.Lsh(greatest.n, uint(places))
	greatest.n.Sub(greatest.n, whole(1, 0).n)
	return []exactCase{
		{[]float64{1, 4, 9}, whole(14, 0)},
		{[]float64{0, 0, 0}, whole(0, 0)},
		{[]float64{math.Copysign(0, -1), math.Copysign(0, -1)}, whole(0, 0)},
		{[]float64{great, great, great}, greatest.times(3)},
		{[]float64{great, -great, great, -great, 1}, whole(1, 0)},
		{[]float64{great, 1, -great}, whole(1, 0)},
		{[]float64{great, least, -great, least, least}, whole(3, low)},
		{[]float64{-great, -great}, greatest.times(-2)},
		{[]float64{great, least}, greatest.plus(whole(1, low))},
		{[]float64{1, math.Ldexp(1, -60), math.Ldexp(1, -60)}, whole(1<<59+1, -59)},
		{[]float64{math.Ldexp(1, places), 1, 1, 1}, whole(1<<places+3, 0)},
		{[]float64{least, -least}, whole(0, 0)},
		{[]float64{least, least, -least}, whole(1, low)},
		{[]float64{0.1, 0.2, 0.3}, powerOf(pattern(0.1, w), w).plus(powerOf(pattern(0.2, w), w)).plus(powerOf(pattern(0.3, w), w))},
		{[]float64{-7}, whole(-7, 0)},
		{slices.Repeat([]float64{great}, 256), greatest.times(256)},
		{slices.Concat(slices.Repeat([]float64{great, -great}, 127), []float64{least, 1}), whole(1, 0).plus(whole(1, low))},
	}
}

// TestP2002Exact: sums that floats would lose, in the loss, and in the gradients of both parameters, in whatever order the rows stand.
func TestP2002Exact(t *testing.T) {
	r := rand.New(rand.NewSource(6))
	for _, w := range widths {
		p, params := linear(w)
		zero := func(n int) api.Matrix { return matrix(n, 1, w, make([]int, n)...) }
		for i, c := range exactCases(w) {
			n := len(c.losses)
			for range 4 {
				r.Shuffle(n, func(a, b int) { c.losses[a], c.losses[b] = c.losses[b], c.losses[a] })
				column := vals(n, 1, w, c.losses...)
				sum, none := c.sum.acc(), api.Acc{}
				for _, x := range []struct {
					s    api.Set
					want api.Part
				}{
					{api.Set{X: column, Y: zero(n)}, api.Part{Rows: upTo(n), Loss: sum, Grads: [][]api.Acc{{sum}, {none}}}},
					{api.Set{X: zero(n), Y: column}, api.Part{Rows: upTo(n), Loss: none, Grads: [][]api.Acc{{none}, {sum}}}},
					{api.Set{X: column, Y: column}, api.Part{Rows: upTo(n), Loss: sum, Grads: [][]api.Acc{{sum}, {sum}}}},
				} {
					got, _, e := wantOf(t, "case "+strconv.Itoa(i), p, params, x.s, upTo(n))
					if e != api.OK || !samePart(got, x.want) {
						t.Errorf("case %d: %v, %v, want %v", i, got, e, x.want)
					}
				}
			}
		}
	}
}

// TestP2002Wide: floats of all sizes.
func TestP2002Wide(t *testing.T) {
	r := rand.New(rand.NewSource(7))
	for _, w := range widths {
		p, params := linear(w)
		for range 30 {
			n := 1 + r.Intn(60)
			any := func() api.Matrix {
				m := matrix(n, 1, w)
				for len(m.Bits) < n {
					if b := int(r.Uint64() >> (64 - w)); refusal(b, w) == api.OK {
						m.Bits = append(m.Bits, b)
					}
				}
				return m
			}
			if _, _, e := wantOf(t, "floats of all sizes", p, params, api.Set{X: any(), Y: any()}, upTo(n)); e != api.OK {
				t.Errorf("%v", e)
			}
		}
	}
}

// TestP2002Great: the greatest parameters, and the most of them.
func TestP2002Great(t *testing.T) {
	r := rand.New(rand.NewSource(8))
	p := planOf(3, 4, input(0, 1, 64, 64), input(1, 1, 1, 64), param(0, 64, 64, 64), takes(api.OpProduct, 0, 2), takes(api.OpSum, 3))
	wantOf(t, "4096 elements", p, []api.Matrix{some(r, 64, 64, 64)}, api.Set{X: some(r, 6, 64, 64), Y: some(r, 6, 1, 64)}, []int{0, 1, 3, 5})
	nodes := []api.Node{input(0, 1, 1, 32), input(1, 1, 1, 32)}
	var params []api.Matrix
	for i := range 64 {
		nodes = append(nodes, param(63-i, 1, 1, 32))
		params = append(params, some(r, 1, 1, 32))
	}
	for i := range 64 { // Node 66 + i is the product with the next parameter.
		nodes = append(nodes, takes(api.OpMul, max(0, 65*min(i, 1)+i), 2+i))
	}
	wantOf(t, "64 parameters", planOf(0, 129, nodes...), params, api.Set{X: some(r, 9, 1, 32), Y: some(r, 9, 1, 32)}, upTo(9))
}
