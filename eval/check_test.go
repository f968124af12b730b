package eval_test

import (
	"math"
	"math/rand"
	"testing"

	"pupil/api"
	"pupil/eval"
)

// valuesOf runs a tape that is reckoned to its end.
func valuesOf(t *testing.T, made api.Tape, inputs, params []api.Matrix) []api.Matrix {
	t.Helper()
	values, f := eval.Run(made, inputs, params)
	if f != (api.Fault{}) {
		t.Fatalf("Run: %v", f)
	}
	return values
}

// with tells values with another one at a node.
func with(values []api.Matrix, node int, m api.Matrix) []api.Matrix {
	l := copies(values)
	l[node] = m
	return l
}

// TestP1002Tape: the tape's fault comes ahead of all others.
func TestP1002Tape(t *testing.T) {
	for _, x := range refused() {
		wantCheck(t, "none", x.tape, nil, x.fault)
		wantCheck(t, "not in form", x.tape, make([]api.Matrix, len(x.tape.Nodes)), x.fault)
	}
}

// TestP1002Counts: as many values as nodes.
func TestP1002Counts(t *testing.T) {
	inputs, params := ofEvery(64)
	values := valuesOf(t, every(64), inputs, params)
	for n := range values {
		wantCheck(t, "too few", every(64), values[:n], api.Fault{Err: api.ErrArg})
	}
	wantCheck(t, "too many", every(64), append(copies(values), good), api.Fault{Err: api.ErrArg})
	wantCheck(t, "too many, not in form", every(64), make([]api.Matrix, 1000), api.Fault{Err: api.ErrArg})
	wantCheck(t, "no nodes", api.Tape{}, nil, api.Fault{})
	wantCheck(t, "no nodes, an empty list", tapeOf(), []api.Matrix{}, api.Fault{})
	wantCheck(t, "no nodes, a value", api.Tape{}, list(good), api.Fault{Err: api.ErrArg})
}

// TestP1002Turned: one bit of one value turned, at each node and each place.
func TestP1002Turned(t *testing.T) {
	for _, width := range widths {
		made := every(width)
		inputs, params := ofEvery(width)
		values := valuesOf(t, made, inputs, params)
		wantCheck(t, "all", made, values, api.Fault{})
		for node, m := range values {
			for at := range m.Bits {
				for _, bit := range []int{0, 1, m.Width / 2, m.Width - 1} {
					l := copies(values)
					l[node].Bits[at] ^= 1 << bit
					want := checkOf(made, l)
					wantCheck(t, "a bit turned", made, l, want)
					if leaf := made.Nodes[node].Op < api.OpConst; !leaf && isFinite(l[node].Bits[at], m.Width) && want != (api.Fault{Err: api.ErrBits, Node: node, At: at}) {
						t.Fatalf("node %d, place %d: the chapter reckoned once more tells %v", node, at, want)
					}
				}
			}
		}
	}
}

// TestP1002First: the first node and its first place that differ are told; a sign of 0 is a difference.
func TestP1002First(t *testing.T) {
	made := tapeOf(input(0, 1, 3, 64), takes(api.OpNeg, 0), takes(api.OpAbs, 1))
	x := mat(1, 3, 64, 0, 2, 3)
	values := valuesOf(t, made, list(x), nil)
	minus := math.Copysign(0, -1)
	wantCheck(t, "0 for -0", made, with(values, 1, mat(1, 3, 64, 0, -2, -3)), api.Fault{Err: api.ErrBits, Node: 1})
	wantCheck(t, "-0 for 0", made, with(values, 2, mat(1, 3, 64, minus, 2, 3)), api.Fault{Err: api.ErrBits, Node: 2})
	wantCheck(t, "two differ", made, with(values, 1, mat(1, 3, 64, minus, 2, 3)), api.Fault{Err: api.ErrBits, Node: 1, At: 1})
	wantCheck(t, "the last differs", made, with(values, 1, mat(1, 3, 64, minus, -2, 3)), api.Fault{Err: api.ErrBits, Node: 1, At: 2})
	wantCheck(t, "two nodes differ", made, with(with(values, 2, mat(1, 3, 64, 9, 9, 9)), 1, mat(1, 3, 64, minus, -2, 3)), api.Fault{Err: api.ErrBits, Node: 1, At: 2})
	wantCheck(t, "another input", made, with(values, 0, mat(1, 3, 64, 0, 2, 4)), api.Fault{Err: api.ErrBits, Node: 1, At: 2})
	wantCheck(t, "not in form behind", made, with(with(values, 2, api.Matrix{}), 1, mat(1, 3, 64, 0, 0, 0)), api.Fault{Err: api.ErrBits, Node: 1})
	log := tapeOf(input(0, 1, 2, 64), takes(api.OpLog, 0))
	wantCheck(t, "what would be infinite", log, list(mat(1, 2, 64, 1, 0), mat(1, 2, 64, 0, -1e308)), api.Fault{Err: api.ErrBits, Node: 1, At: 1})
	wantCheck(t, "differs ahead of it", log, list(mat(1, 2, 64, 1, 0), mat(1, 2, 64, 1, -1e308)), api.Fault{Err: api.ErrBits, Node: 1})
	wantCheck(t, "infinite", log, list(mat(1, 2, 64, 1, 0), mat(1, 2, 64, 1, -inf)), api.Fault{Err: api.ErrInf, Node: 1, At: 1})
}

// TestP1002Fits: values of other widths and shapes, not in form, not finite, at each node; each ahead of what differs.
func TestP1002Fits(t *testing.T) {
	x, w, nought := good, tall, mat(1, 1, 64, 0)
	values := list(x, w, nought, nought)
	for _, c := range wrong(1, 2) {
		wantCheck(t, "an input", net(), with(values, 0, c.m), api.Fault{Err: c.e})
	}
	for _, c := range wrong(2, 1) {
		wantCheck(t, "a parameter", net(), with(values, 1, c.m), api.Fault{Err: c.e, Node: 1})
	}
	for node := range values {
		m := values[node]
		count := m.Rows * m.Cols
		for _, c := range []struct {
			m    api.Matrix
			want api.Fault
		}{
			{api.Matrix{}, api.Fault{Err: api.ErrWidth, Node: node}},
			{api.Matrix{Rows: m.Rows, Cols: m.Cols, Width: 64}, api.Fault{Err: api.ErrShape, Node: node}},
			{mat(m.Rows, m.Cols, 32, make([]float64, count)...), api.Fault{Err: api.ErrWidth, Node: node}},
			{mat(m.Rows, m.Cols+1, 64, make([]float64, m.Rows*(m.Cols+1))...), api.Fault{Err: api.ErrShape, Node: node}},
			{mat(m.Rows+1, m.Cols, 64, make([]float64, (m.Rows+1)*m.Cols)...), api.Fault{Err: api.ErrShape, Node: node}},
			{mat(m.Rows, m.Cols, 64, append(make([]float64, count-1), inf)...), api.Fault{Err: api.ErrInf, Node: node, At: count - 1}},
			{mat(m.Rows, m.Cols, 64, append(make([]float64, count-1), nan)...), api.Fault{Err: api.ErrNaN, Node: node, At: count - 1}},
			{mat(m.Rows, m.Cols, 64, append([]float64{-inf}, make([]float64, count-1)...)...), api.Fault{Err: api.ErrInf, Node: node}},
		} {
			wantCheck(t, "does not fit", net(), with(values, node, c.m), c.want)
		}
	}
	mixed := tapeOf(input(0, 1, 4, 32))
	wantCheck(t, "the first of them", mixed, list(mat(1, 4, 32, 1, -inf, nan, 0)), api.Fault{Err: api.ErrInf, At: 1})
	wantCheck(t, "the first of them", mixed, list(mat(1, 4, 32, 1, 1, nan, inf)), api.Fault{Err: api.ErrNaN, At: 2})
}

// TestP1002Constant: a constant's value is its own.
func TestP1002Constant(t *testing.T) {
	made := tapeOf(constant(mat(1, 3, 32, 1, 0, 3)), takes(api.OpSum, 0))
	values := valuesOf(t, made, nil, nil)
	wantCheck(t, "its own", made, values, api.Fault{})
	wantCheck(t, "another", made, with(values, 0, mat(1, 3, 32, 1, 0, 4)), api.Fault{Err: api.ErrBits, At: 2})
	wantCheck(t, "another that fits what is behind it", made, list(mat(1, 3, 32, 2, 0, 2), values[1]), api.Fault{Err: api.ErrBits})
	wantCheck(t, "the sign of 0", made, with(values, 0, mat(1, 3, 32, 1, math.Copysign(0, -1), 3)), api.Fault{Err: api.ErrBits, At: 1})
}

// TestP1003Both: Check has no fault with just what Run tells of some inputs and parameters: these are the values at their nodes.
func TestP1003Both(t *testing.T) {
	ends, others := 0, 0
	for seed := range int64(120) {
		r := rand.New(rand.NewSource(1000 + seed))
		made := grown(r, 20)
		inputs, params := fill(r, made)
		values, f := eval.Run(made, inputs, params)
		if f == (api.Fault{}) {
			ends++
			wantCheck(t, "what Run tells", made, values, f)
		}
		for range 5 {
			l := values
			if f != (api.Fault{}) {
				l = numbersOf(r, made)
			}
			l = spoil(r, l)
			if len(l) != len(made.Nodes) {
				continue
			}
			in, pa := leaves(made, l)
			told, g := eval.Run(made, in, pa)
			if got := eval.Check(made, l) == (api.Fault{}); got != (g == (api.Fault{}) && sameAll(told, l)) {
				t.Fatalf("Check tells %v of values of which Run tells %v", got, g)
			} else if got {
				others++
			}
		}
	}
	if ends < 20 || others < 5 {
		t.Errorf("%d tapes are reckoned to their ends, %d spoilt lists are values", ends, others)
	}
}

// numbersOf tells a number for each node.
func numbersOf(r *rand.Rand, t api.Tape) []api.Matrix {
	var l []api.Matrix
	for range t.Nodes {
		l = append(l, some(r, 1, 1, 64))
	}
	return l
}

// leaves tells, of values, those of the inputs and of the parameters.
func leaves(t api.Tape, values []api.Matrix) (inputs, params []api.Matrix) {
	inputs, params = make([]api.Matrix, count(t, api.OpInput)), make([]api.Matrix, count(t, api.OpParam))
	for node, n := range t.Nodes {
		switch n.Op {
		case api.OpInput:
			inputs[n.A] = values[node]
		case api.OpParam:
			params[n.A] = values[node]
		}
	}
	return inputs, params
}

// TestP1003Leaves: any finite matrices of their shapes are values of inputs and parameters.
func TestP1003Leaves(t *testing.T) {
	for _, width := range widths {
		made := tapeOf(param(0, 1, 2, width), input(1, 2, 2, width), input(0, 3, 1, width))
		r := rand.New(rand.NewSource(int64(width)))
		for range 200 {
			var values []api.Matrix
			for _, n := range made.Nodes {
				m := api.Matrix{Rows: n.Rows, Cols: n.Cols, Width: width}
				for len(m.Bits) < n.Rows*n.Cols {
					if x := int(r.Uint64()) >> (64 - width) & (1<<width - 1); isFinite(x, width) {
						m.Bits = append(m.Bits, x)
					}
				}
				values = append(values, m)
			}
			wantCheck(t, "any finite ones", made, values, api.Fault{})
			inputs, params := leaves(made, values)
			wantRun(t, "any finite ones", made, inputs, params, values, api.Fault{})
		}
	}
}
