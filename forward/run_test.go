package forward_test

import (
	"math"
	"math/rand"
	"testing"

	"pupil/api"
	"pupil/eval"
	"pupil/forward"
)

// noughts tells values of 0 for all nodes of the net.
func noughts() []api.Matrix {
	return list(mat(1, 2, 64, 0, 0), mat(2, 1, 64, 0, 0), mat(1, 1, 64, 0), mat(1, 1, 64, 0))
}

// TestP1101Every: every operation in both widths; some tangents reckoned by hand.
func TestP1101Every(t *testing.T) {
	for _, width := range widths {
		made := every(width)
		inputs, params := ofEvery(width)
		values := valuesOf(t, made, inputs, params)
		in := list(mat(1, 6, width, 1, 2, 3, 4, 5, 6), mat(2, 3, width, -1, 2, 0.5, 3, 1, -2))
		pa := list(mat(1, 1, width, 2), mat(3, 2, width, 1, 1, 2, 3, 5, 8))
		want, f := runOf(made, values, in, pa)
		if f != (api.Fault{}) {
			t.Fatalf("the chapter reckoned once more: %v", f)
		}
		wantRun(t, "every", made, values, in, pa, want, f)
		got, _ := forward.Run(made, values, in, pa)
		for node, m := range map[int]api.Matrix{
			0:  in[1],
			1:  pa[1],
			2:  in[0],
			3:  pa[0],
			4:  mat(2, 1, width, 0, 0),
			5:  mat(2, 3, width, -1, 2, 0.5, 3, 1, -2),
			6:  mat(2, 3, width, 3, 0, 1.5, -1, 1, 4),
			7:  mat(2, 6, width, 0.25, 0.5, 0.75, 1, 1.25, 1.5, 3, 6, 9, 12, 15, 18),
			10: mat(2, 3, width, 3, 0, 0, -1, 0, 4),
			11: mat(2, 3, width, 3, 0, -1.5, -1, -1, 4),
			13: mat(2, 1, width, 0, 0),
			18: mat(3, 3, width, -2.5, 9.5, 3.25, 1, 18, 1.25, -30.25, 49.5, 23.125),
			19: mat(6, 1, width, 1, 2, 3, 4, 5, 6),
			26: mat(2, 3, width, 1, 2, 3, 3, 4, 5),
			27: mat(1, 1, width, 3.5),
			28: mat(2, 1, width, 1.5, 2),
			29: mat(1, 3, width, 2, 3, -1.5),
			31: mat(3, 1, width, 1, 3, 5),
			34: mat(2, 3, 96-width, -1, 2, 0.5, 3, 1, -2),
		} {
			if !same(got[node], m) {
				t.Errorf("node %d: %v, want %v", node, got[node], m)
			}
		}
	}
}

// TestP1101Empty: a tape without nodes has no tangents, and takes nothing.
func TestP1101Empty(t *testing.T) {
	wantRun(t, "nothing", api.Tape{}, nil, nil, nil, nil, api.Fault{})
	wantRun(t, "empty lists", tapeOf(), []api.Matrix{}, []api.Matrix{}, []api.Matrix{}, nil, api.Fault{})
	wantRun(t, "a value", api.Tape{}, list(good), nil, nil, nil, api.Fault{Err: api.ErrArg})
	wantRun(t, "an input", api.Tape{}, nil, list(good), nil, nil, api.Fault{Err: api.ErrInput})
	wantRun(t, "a parameter", api.Tape{}, nil, nil, list(good), nil, api.Fault{Err: api.ErrParam})
	wantRun(t, "both", api.Tape{}, nil, list(good), list(good), nil, api.Fault{Err: api.ErrInput})
	wantRun(t, "a constant alone", tapeOf(constant(mat(1, 2, 32, 3, neg0))), list(mat(1, 2, 32, 3, neg0)), nil, nil, list(mat(1, 2, 32, 0, 0)), api.Fault{})
}

// TestP1101Tape: the tape's fault comes ahead of all others.
func TestP1101Tape(t *testing.T) {
	for _, x := range refused() {
		wantRun(t, "nothing given", x.tape, nil, nil, nil, nil, x.fault)
		wantRun(t, "directions that fit", x.tape, make([]api.Matrix, len(x.tape.Nodes)), list(good), list(tall), nil, x.fault)
		wantRun(t, "not finite", x.tape, noughts(), list(mat(1, 2, 64, nan, inf)), list(tall), nil, x.fault)
	}
}

// TestP1101Values: the fault of the values comes ahead of the directions'.
func TestP1101Values(t *testing.T) {
	values := list(good, tall, mat(1, 1, 64, 0), mat(1, 1, 64, 0))
	for _, x := range []struct {
		node int
		m    api.Matrix
		want api.Fault
	}{
		{0, api.Matrix{}, api.Fault{Err: api.ErrWidth}},
		{1, mat(1, 2, 64, 1, 2), api.Fault{Err: api.ErrShape, Node: 1}},
		{1, mat(2, 1, 32, 1, 2), api.Fault{Err: api.ErrWidth, Node: 1}},
		{1, mat(2, 1, 64, 1, nan), api.Fault{Err: api.ErrNaN, Node: 1, At: 1}},
		{0, mat(1, 2, 64, 1, -inf), api.Fault{Err: api.ErrInf, At: 1}},
		{0, mat(1, 2, 64, 2, 2), api.Fault{Err: api.ErrBits, Node: 2}},
		{2, mat(1, 1, 64, 1), api.Fault{Err: api.ErrBits, Node: 2}},
		{3, mat(1, 1, 64, neg0), api.Fault{Err: api.ErrBits, Node: 3}},
	} {
		l := copies(values)
		l[x.node] = x.m
		if f := eval.Check(net(), l); f != x.want {
			t.Errorf("eval.Check tells %v", f)
		}
		wantRun(t, "right directions", net(), l, list(good), list(tall), nil, x.want)
		wantRun(t, "no directions", net(), l, nil, nil, nil, x.want)
		wantRun(t, "not in form", net(), l, list(api.Matrix{}), list(api.Matrix{}), nil, x.want)
	}
	for n := range values {
		wantRun(t, "too few", net(), values[:n], list(good), list(tall), nil, api.Fault{Err: api.ErrArg})
		wantRun(t, "too few, no directions", net(), values[:n], nil, nil, nil, api.Fault{Err: api.ErrArg})
	}
	wantRun(t, "too many", net(), append(values, good), nil, nil, nil, api.Fault{Err: api.ErrArg})
}

// TestP1101Counts: too few and too many directions, of inputs, then of parameters.
func TestP1101Counts(t *testing.T) {
	bad := api.Matrix{}
	noInput, noParam := api.Fault{Err: api.ErrInput, Node: 4}, api.Fault{Err: api.ErrParam, Node: 4}
	wantRun(t, "no input", net(), noughts(), nil, list(tall), nil, noInput)
	wantRun(t, "an empty list", net(), noughts(), []api.Matrix{}, list(tall), nil, noInput)
	wantRun(t, "two inputs", net(), noughts(), list(good, good), list(tall), nil, noInput)
	wantRun(t, "two inputs not in form", net(), noughts(), list(bad, bad), nil, nil, noInput)
	wantRun(t, "no parameter", net(), noughts(), list(good), nil, nil, noParam)
	wantRun(t, "two parameters", net(), noughts(), list(good), list(tall, tall), nil, noParam)
	wantRun(t, "two not in form", net(), noughts(), list(good), list(bad, bad), nil, noParam)
	wantRun(t, "neither", net(), noughts(), nil, nil, nil, noInput)
	wantRun(t, "an input ahead of how many parameters", net(), noughts(), list(tall), nil, nil, api.Fault{Err: api.ErrShape})
	wantRun(t, "one not finite ahead of them", net(), noughts(), list(mat(1, 2, 64, 0, nan)), nil, nil, api.Fault{Err: api.ErrNaN, At: 1})
	more := tapeOf(constant(good), param(0, 2, 1, 64), takes(api.OpNeg, 0))
	values := valuesOf(t, more, nil, list(tall))
	wantRun(t, "no input is taken", more, values, list(good), list(tall), nil, api.Fault{Err: api.ErrInput, Node: 3})
	wantRun(t, "many", more, values, nil, make([]api.Matrix, 1000), nil, api.Fault{Err: api.ErrParam, Node: 3})
}

// TestP1101Fits: directions, of inputs, then of parameters, that don't fit their nodes.
func TestP1101Fits(t *testing.T) {
	for _, x := range wrong(1, 2) {
		wantRun(t, "an input", net(), noughts(), list(x.m), list(tall), nil, api.Fault{Err: x.e})
		wantRun(t, "ahead of the parameters", net(), noughts(), list(x.m), nil, nil, api.Fault{Err: x.e})
		wantRun(t, "ahead of theirs", net(), noughts(), list(x.m), list(mat(2, 1, 64, nan, inf)), nil, api.Fault{Err: x.e})
	}
	for _, x := range wrong(2, 1) {
		wantRun(t, "a parameter", net(), noughts(), list(good), list(x.m), nil, api.Fault{Err: x.e, Node: 1})
		wantRun(t, "behind an input that is not finite", net(), noughts(), list(mat(1, 2, 64, inf, nan)), list(x.m), nil, api.Fault{Err: api.ErrInf})
	}
}

// TestP1101Finite: directions that are not finite, each behind its own shape and ahead of the next one's.
func TestP1101Finite(t *testing.T) {
	for _, x := range []struct {
		m    api.Matrix
		want api.Fault
	}{
		{mat(1, 2, 64, nan, inf), api.Fault{Err: api.ErrNaN}},
		{mat(1, 2, 64, inf, nan), api.Fault{Err: api.ErrInf}},
		{mat(1, 2, 64, -inf, 0), api.Fault{Err: api.ErrInf}},
		{mat(1, 2, 64, 0, -inf), api.Fault{Err: api.ErrInf, At: 1}},
		{mat(1, 2, 64, 0, nan), api.Fault{Err: api.ErrNaN, At: 1}},
		{api.Matrix{Rows: 1, Cols: 2, Width: 64, Bits: []int{0, -1}}, api.Fault{Err: api.ErrNaN, At: 1}},
		{api.Matrix{Rows: 1, Cols: 2, Width: 64, Bits: []int{0, api.Inf + 1}}, api.Fault{Err: api.ErrNaN, At: 1}},
	} {
		wantRun(t, "an input", net(), noughts(), list(x.m), list(tall), nil, x.want)
		wantRun(t, "ahead of the parameters", net(), noughts(), list(x.m), list(api.Matrix{}), nil, x.want)
		turned := x.m
		turned.Rows, turned.Cols = 2, 1
		x.want.Node = 1
		wantRun(t, "a parameter", net(), noughts(), list(good), list(turned), nil, x.want)
	}
	made := tapeOf(param(0, 1, 2, 32))
	wantRun(t, "width 32", made, list(mat(1, 2, 32, 0, 0)), nil, list(mat(1, 2, 32, 1, nan)), nil, api.Fault{Err: api.ErrNaN, At: 1})
	wantRun(t, "width 32", made, list(mat(1, 2, 32, 0, 0)), nil, list(mat(1, 2, 32, inf, nan)), nil, api.Fault{Err: api.ErrInf})
}

// TestP1101Order: directions are looked at by their numbers, not by their nodes: each one whole, then the next one; tangents are told by nodes.
func TestP1101Order(t *testing.T) {
	made := tapeOf(param(1, 1, 1, 64), input(2, 1, 3, 64), input(0, 1, 1, 64), param(0, 1, 2, 64), input(1, 1, 2, 64))
	one, two, three := mat(1, 1, 64, 1), mat(1, 2, 64, 1, 2), mat(1, 3, 64, 1, 2, 3)
	values := valuesOf(t, made, list(one, two, three), list(two, one))
	bad := mat(2, 2, 64, 1, 2, 3, 4)
	x, y, z := mat(1, 1, 64, 5), mat(1, 2, 64, 6, 7), mat(1, 3, 64, 8, 9, 10)
	v, w := mat(1, 2, 64, 11, 12), mat(1, 1, 64, 13)
	wantRun(t, "all right", made, values, list(x, y, z), list(v, w), list(w, z, x, v, y), api.Fault{})
	wantRun(t, "all inputs wrong", made, values, list(bad, bad, bad), list(v, w), nil, api.Fault{Err: api.ErrShape, Node: 2})
	wantRun(t, "the latter inputs wrong", made, values, list(x, bad, bad), list(v, w), nil, api.Fault{Err: api.ErrShape, Node: 4})
	wantRun(t, "the last input wrong", made, values, list(x, y, bad), list(bad, bad), nil, api.Fault{Err: api.ErrShape, Node: 1})
	wantRun(t, "the parameters wrong", made, values, list(x, y, z), list(bad, bad), nil, api.Fault{Err: api.ErrShape, Node: 3})
	wantRun(t, "the last parameter wrong", made, values, list(x, y, z), list(v, bad), nil, api.Fault{Err: api.ErrShape})
	wantRun(t, "ErrWidth", made, values, list(mat(1, 1, 32, 1), bad, bad), list(v, w), nil, api.Fault{Err: api.ErrWidth, Node: 2})
	for _, c := range []struct {
		inputs, params []api.Matrix
		want           api.Fault
	}{
		{list(mat(1, 1, 64, inf), bad, mat(1, 3, 64, 1, nan, inf)), nil, api.Fault{Err: api.ErrInf, Node: 2}},
		{list(x, mat(1, 2, 64, 0, nan), bad), list(bad, bad), api.Fault{Err: api.ErrNaN, Node: 4, At: 1}},
		{list(x, y, mat(1, 3, 64, 0, 0, -inf)), nil, api.Fault{Err: api.ErrInf, Node: 1, At: 2}},
		{list(x, bad, mat(1, 3, 64, 0, 0, -inf)), nil, api.Fault{Err: api.ErrShape, Node: 4}},
		{list(x, y, z), list(mat(1, 2, 64, 1, nan), bad), api.Fault{Err: api.ErrNaN, Node: 3, At: 1}},
		{list(x, y, z), list(v, mat(1, 1, 64, -inf)), api.Fault{Err: api.ErrInf}},
	} {
		wantRun(t, "by numbers", made, values, c.inputs, c.params, nil, c.want)
	}
}

// TestP1101Stops: the first node, at its first element, whose tangent is not finite; by that element ErrNaN or ErrInf.
func TestP1101Stops(t *testing.T) {
	for _, width := range widths {
		big := math.MaxFloat64
		if width == 32 {
			big = math.MaxFloat32
		}
		made := tapeOf(input(0, 1, 3, width), takes(api.OpAdd, 0, 0), takes(api.OpSub, 1, 1), takes(api.OpSqrt, 2), takes(api.OpNeg, 3))
		values := valuesOf(t, made, list(mat(1, 3, width, 1, 2, 3)), nil)
		for _, c := range []struct {
			along []float64
			want  api.Fault
		}{
			{[]float64{1, 1, 1}, api.Fault{Err: api.ErrNaN, Node: 3}},
			{[]float64{1, big, 1}, api.Fault{Err: api.ErrInf, Node: 1, At: 1}},
			{[]float64{1, 1, -big}, api.Fault{Err: api.ErrInf, Node: 1, At: 2}},
			{[]float64{big / 2, -big / 2, big}, api.Fault{Err: api.ErrInf, Node: 1, At: 2}},
			{[]float64{big, big, big}, api.Fault{Err: api.ErrInf, Node: 1}},
		} {
			wantRun(t, "stops", made, values, list(mat(1, 3, width, c.along...)), nil, nil, c.want)
			more := behind(made, takes(api.OpSqrt, 2), takes(api.OpAdd, 1, 1), takes(api.OpSum, 0))
			in, _ := leavesOf(made, values)
			wantRun(t, "more behind", more, valuesOf(t, more, in, nil), list(mat(1, 3, width, c.along...)), nil, nil, c.want)
		}
		root := tapeOf(input(0, 2, 2, width), takes(api.OpSqrt, 0))
		values = valuesOf(t, root, list(mat(2, 2, width, 1, 0, 0, 0)), nil)
		wantRun(t, "infinite ahead", root, values, list(mat(2, 2, width, 1, -1, 0, 0)), nil, nil, api.Fault{Err: api.ErrInf, Node: 1, At: 1})
		wantRun(t, "no number ahead", root, values, list(mat(2, 2, width, 1, 0, 1, 0)), nil, nil, api.Fault{Err: api.ErrNaN, Node: 1, At: 1})
	}
	narrow := tapeOf(input(0, 1, 2, 64), takes(api.OpNarrow, 0), takes(api.OpWide, 1))
	values := valuesOf(t, narrow, list(good), nil)
	wantRun(t, "too great for width 32", narrow, values, list(mat(1, 2, 64, 1, 1e300)), nil, nil, api.Fault{Err: api.ErrInf, Node: 1, At: 1})
}

// TestP1101Behind: more nodes behind it turn no node's tangent.
func TestP1101Behind(t *testing.T) {
	for seed := range int64(60) {
		r := rand.New(rand.NewSource(seed))
		made := grown(r, 25)
		inputs, params := fill(r, made)
		values, f := eval.Run(made, inputs, params)
		if f != (api.Fault{}) {
			continue
		}
		in, pa := fill(r, made)
		got, f := forward.Run(made, values, in, pa)
		more := behind(made, takes(api.OpNeg, 0), constant(good), takes(api.OpMul, 0, 0))
		all, g := forward.Run(more, valuesOf(t, more, inputs, params), in, pa)
		if f != g || f == (api.Fault{}) && !sameAll(all[:len(got)], got) {
			t.Fatalf("nodes behind turn %v %v to %v %v", got, f, all, g)
		}
	}
}

// spoil turns something in a list of matrices.
func spoil(r *rand.Rand, l []api.Matrix) []api.Matrix {
	l = copies(l)
	if len(l) == 0 || r.Intn(8) == 0 {
		return append(l, some(r, 1, 1, 64))
	}
	m := &l[r.Intn(len(l))]
	if len(m.Bits) == 0 || m.Width != 32 && m.Width != 64 { // It was spoilt already.
		return l
	}
	at := r.Intn(len(m.Bits))
	switch r.Intn(10) {
	case 0:
		return l[:len(l)-1]
	case 1:
		m.Rows, m.Cols = m.Cols, m.Rows
	case 2:
		m.Width = append(noWidths, 32, 64)[r.Intn(len(noWidths)+2)]
	case 3:
		m.Rows = ends[r.Intn(len(ends))]
	case 4:
		m.Cols = ends[r.Intn(len(ends))]
	case 5:
		m.Bits = append(m.Bits, 0)
	case 6:
		m.Bits = m.Bits[:at]
	case 7:
		m.Bits[at] = infinite(m.Width)
	case 8:
		m.Bits[at] = none(m.Width) + r.Intn(2)
	case 9:
		m.Bits[at] ^= 1 << r.Intn(m.Width)
	}
	return l
}

// TestP1101Mixed: Run tells what the chapter says, of mixed tapes and directions, right or spoilt.
func TestP1101Mixed(t *testing.T) {
	ends, stops := 0, 0
	for seed := range int64(400) {
		r := rand.New(rand.NewSource(seed))
		made := grown(r, 1+r.Intn(25))
		values, f := eval.Run(made, first(fill(r, made)), second(fill(rand.New(rand.NewSource(seed)), made)))
		if f != (api.Fault{}) {
			continue
		}
		in, pa := fill(r, made)
		for turn := range 5 {
			want, f := runOf(made, values, in, pa)
			wantRun(t, "mixed", made, values, in, pa, want, f)
			if turn == 0 && f == (api.Fault{}) {
				ends++
			} else if turn == 0 {
				stops++
			}
			switch r.Intn(6) {
			case 0:
				l := spoil(r, values)
				want, f := runOf(made, l, in, pa)
				wantRun(t, "values spoilt", made, l, in, pa, want, f)
			case 1, 2:
				pa = spoil(r, pa)
			default:
				in = spoil(r, in)
			}
		}
	}
	if ends < 100 || stops < 2 {
		t.Errorf("%d tapes have tangents, %d stop", ends, stops)
	}
}

func first(a, _ []api.Matrix) []api.Matrix  { return a }
func second(_, b []api.Matrix) []api.Matrix { return b }
