package reverse_test

import (
	"math/rand"
	"testing"

	"pupil/api"
	"pupil/eval"
	"pupil/reverse"
)

// noughts tells values of 0 for all nodes of the net.
func noughts() []api.Matrix {
	return list(mat(1, 2, 64, 0, 0), mat(2, 1, 64, 0, 0), mat(1, 1, 64, 0), mat(1, 1, 64, 0))
}

// ones tells a seed of ones, of the shape of a matrix.
func ones(m api.Matrix) api.Matrix {
	seed := mat(m.Rows, m.Cols, m.Width)
	for range m.Bits {
		seed.Bits = append(seed.Bits, mat(1, 1, m.Width, 1).Bits[0])
	}
	return seed
}

// zeros tells noughts, of the shape of a matrix.
func zeros(m api.Matrix) api.Matrix {
	m.Bits = make([]int, len(m.Bits))
	return m
}

// TestP1201Every: every operation in both widths, from each node; some adjoints reckoned by hand.
func TestP1201Every(t *testing.T) {
	for _, width := range widths {
		made := every(width)
		inputs, params := ofEvery(width)
		values := valuesOf(t, made, inputs, params)
		r := rand.New(rand.NewSource(14))
		for node, m := range values {
			for _, seed := range list(ones(m), near(r, m.Rows, m.Cols, m.Width), steep(r, m.Rows, m.Cols, m.Width)) {
				want, f := runOf(made, values, node, seed)
				if f != (api.Fault{}) {
					t.Fatalf("the chapter reckoned once more: %v", f)
				}
				wantRun(t, "every", made, values, node, seed, want, f)
			}
		}
		for node, c := range map[int]struct {
			seed api.Matrix
			leaf int
			want api.Matrix
		}{
			5:  {mat(2, 3, width, 1, 2, 4, 8, 16, 32), 4, mat(2, 1, width, 7, 56)},
			6:  {mat(2, 3, width, 1, 2, 4, 8, 16, 32), 3, mat(1, 1, width, 63)},
			8:  {mat(1, 6, width, 3, 6, 9, 0, 0, 3), 2, mat(1, 6, width, 2, 4, 6, 0, 0, 2)},
			10: {mat(2, 3, width, 1, 2, 4, 8, 16, 32), 0, mat(2, 3, width, -1, 0, 0, -8, 0, -32)},
			11: {mat(2, 3, width, 1, 2, 4, 8, 16, 32), 0, mat(2, 3, width, -1, 2, 4, -8, 16, -32)},
			18: {ones(values[18]), 1, mat(3, 2, width, 6, 1.75, 6, 1.75, 6, 1.75)},
			23: {mat(2, 7, width, 1, 2, 4, 8, 16, 32, 64, 1, 1, 1, 1, 1, 1, 1), 0, mat(2, 3, width, 17, 34, 68, 2, 2, 2)},
			26: {mat(2, 3, width, 1, 2, 4, 8, 16, 32), 2, mat(1, 6, width, 1, 2, 12, 16, 32, 0)},
			28: {mat(2, 1, width, 3, 4), 0, mat(2, 3, width, 3, 3, 3, 4, 4, 4)},
			29: {mat(1, 3, width, 3, 4, 5), 0, mat(2, 3, width, 3, 4, 5, 3, 4, 5)},
			30: {mat(1, 1, width, 3), 1, mat(3, 2, width, 0.5, 0.5, 0.5, 0.5, 0.5, 0.5)},
			31: {mat(3, 1, width, 3, 4, 5), 1, mat(3, 2, width, 3, 0, 0, 4, 5, 0)},
			35: {mat(2, 3, width, 1, 2, 3, 4, 5, 6), 34, mat(2, 3, 96-width, 1, 2, 3, 4, 5, 6)},
		} {
			got, f := reverse.Run(made, values, node, c.seed)
			if f != (api.Fault{}) || !same(got[c.leaf], c.want) {
				t.Errorf("width %d, node %d: %v %v, want %v", width, node, got, f, c.want)
			}
		}
	}
}

// TestP1201Hangs: nodes that the node does not hang on have noughts, ahead of it and behind it, and stop nothing.
func TestP1201Hangs(t *testing.T) {
	for _, width := range widths {
		one := mat(1, 1, width, 1)
		made := tapeOf(input(0, 1, 2, width), takes(api.OpSqrt, 0), constant(mat(1, 1, width, 5)), param(0, 1, 1, width), takes(api.OpNeg, 0), takes(api.OpLog, 3), takes(api.OpSum, 4), takes(api.OpSqrt, 6), takes(api.OpSqrt, 0), takes(api.OpAdd, 6, 8))
		values := valuesOf(t, made, list(mat(1, 2, width, 0, 0)), list(one))
		want := copies(values)
		for i, m := range want {
			want[i] = zeros(m)
		}
		want[6], want[4], want[0] = mat(1, 1, width, 3), mat(1, 2, width, 3, 3), mat(1, 2, width, -3, -3)
		wantRun(t, "a sum", made, values, 6, mat(1, 1, width, 3), want, api.Fault{}) // The roots of 0 ahead of it and behind it take what it takes.
		for node := range 4 {
			if node == 1 {
				continue
			}
			l := copies(values)
			for i, m := range l {
				l[i] = zeros(m)
			}
			l[node] = ones(values[node])
			wantRun(t, "a leaf", made, values, node, l[node], l, api.Fault{})
		}
	}
}

// TestP1201Empty: a tape without nodes has no node to go back from.
func TestP1201Empty(t *testing.T) {
	for _, node := range ends {
		wantRun(t, "nothing", api.Tape{}, nil, node, good, nil, api.Fault{Err: api.ErrNode})
		wantRun(t, "empty lists", tapeOf(), []api.Matrix{}, node, api.Matrix{}, nil, api.Fault{Err: api.ErrNode})
		wantRun(t, "a value", api.Tape{}, list(good), node, good, nil, api.Fault{Err: api.ErrArg})
	}
	wantRun(t, "a constant alone", tapeOf(constant(mat(1, 2, 32, 3, neg0))), list(mat(1, 2, 32, 3, neg0)), 0, mat(1, 2, 32, 7, neg0), list(mat(1, 2, 32, 7, 0)), api.Fault{})
}

// TestP1201Tape: the tape's fault comes ahead of all others.
func TestP1201Tape(t *testing.T) {
	for _, x := range refused() {
		wantRun(t, "nothing given", x.tape, nil, 0, api.Matrix{}, nil, x.fault)
		wantRun(t, "a seed that fits", x.tape, make([]api.Matrix, len(x.tape.Nodes)), 0, good, nil, x.fault)
		wantRun(t, "no node", x.tape, noughts(), -1, mat(1, 2, 64, nan, inf), nil, x.fault)
		wantRun(t, "no node", x.tape, noughts(), 2000, good, nil, x.fault)
	}
}

// TestP1201Values: the fault of the values comes ahead of the node's and the seed's.
func TestP1201Values(t *testing.T) {
	values := list(good, tall, mat(1, 1, 64, 0), mat(1, 1, 64, 0))
	for _, x := range []struct {
		node int
		m    api.Matrix
		want api.Fault
	}{
		{0, api.Matrix{}, api.Fault{Err: api.ErrWidth}},
		{1, mat(1, 2, 64, 1, 2), api.Fault{Err: api.ErrShape, Node: 1}},
		{1, mat(2, 1, 32, 1, 2), api.Fault{Err: api.ErrWidth, Node: 1}},
		{1, mat(2, 1, 64, 1, nan), api.Fault{Err: api.ErrNaN, Node: 1, At: 1}},
		{0, mat(1, 2, 64, 1, -inf), api.Fault{Err: api.ErrInf, At: 1}},
		{0, mat(1, 2, 64, 2, 2), api.Fault{Err: api.ErrBits, Node: 2}},
		{2, mat(1, 1, 64, 1), api.Fault{Err: api.ErrBits, Node: 2}},
		{3, mat(1, 1, 64, neg0), api.Fault{Err: api.ErrBits, Node: 3}},
	} {
		l := copies(values)
		l[x.node] = x.m
		if f := eval.Check(net(), l); f != x.want {
			t.Errorf("eval.Check tells %v", f)
		}
		wantRun(t, "a right seed", net(), l, 3, mat(1, 1, 64, 1), nil, x.want)
		wantRun(t, "behind the node", net(), l, 0, good, nil, x.want)
		wantRun(t, "no node", net(), l, 4, good, nil, x.want)
		wantRun(t, "not in form", net(), l, -1, api.Matrix{}, nil, x.want)
	}
	for n := range values {
		wantRun(t, "too few", net(), values[:n], 0, good, nil, api.Fault{Err: api.ErrArg})
		wantRun(t, "too few, no node", net(), values[:n], -1, api.Matrix{}, nil, api.Fault{Err: api.ErrArg})
	}
	wantRun(t, "too many", net(), append(values, good), 4, good, nil, api.Fault{Err: api.ErrArg})
}

// TestP1201Node: nodes below 0 and behind the last one, whatever the seed.
func TestP1201Node(t *testing.T) {
	for _, node := range ends {
		if node >= 0 && node < 4 {
			continue
		}
		for _, seed := range list(mat(1, 1, 64, 1), good, api.Matrix{}, mat(1, 1, 64, nan), mat(1, 1, 32, 1)) {
			wantRun(t, "no node", net(), noughts(), node, seed, nil, api.Fault{Err: api.ErrNode})
		}
	}
	for _, node := range []int{-4, -3, -2, 4, 5, 6} {
		wantRun(t, "no node", net(), noughts(), node, mat(1, 1, 64, 1), nil, api.Fault{Err: api.ErrNode})
	}
}

// TestP1201Seed: seeds that don't fit their node, each with its error; what is not finite behind these.
func TestP1201Seed(t *testing.T) {
	for _, x := range wrong(1, 2) {
		wantRun(t, "of node 0", net(), noughts(), 0, x.m, nil, api.Fault{Err: x.e})
	}
	for _, x := range wrong(2, 1) {
		wantRun(t, "of node 1", net(), noughts(), 1, x.m, nil, api.Fault{Err: x.e, Node: 1})
	}
	for _, m := range list(good, tall, mat(2, 2, 64, 1, 2, 3, 4), mat(1, 2, 64, nan, nan)) {
		for _, node := range []int{2, 3} {
			wantRun(t, "of a number", net(), noughts(), node, m, nil, api.Fault{Err: api.ErrShape, Node: node})
		}
	}
	for _, x := range []struct {
		m    api.Matrix
		want api.Fault
	}{
		{mat(1, 2, 64, nan, inf), api.Fault{Err: api.ErrNaN}},
		{mat(1, 2, 64, inf, nan), api.Fault{Err: api.ErrInf}},
		{mat(1, 2, 64, -inf, 0), api.Fault{Err: api.ErrInf}},
		{mat(1, 2, 64, 0, -inf), api.Fault{Err: api.ErrInf, At: 1}},
		{mat(1, 2, 64, 0, nan), api.Fault{Err: api.ErrNaN, At: 1}},
		{api.Matrix{Rows: 1, Cols: 2, Width: 64, Bits: []int{0, -1}}, api.Fault{Err: api.ErrNaN, At: 1}},
		{api.Matrix{Rows: 1, Cols: 2, Width: 64, Bits: []int{0, api.Inf + 1}}, api.Fault{Err: api.ErrNaN, At: 1}},
	} {
		wantRun(t, "of node 0", net(), noughts(), 0, x.m, nil, x.want)
		turned := x.m
		turned.Rows, turned.Cols = 2, 1
		x.want.Node = 1
		wantRun(t, "of node 1", net(), noughts(), 1, turned, nil, x.want)
	}
	made := tapeOf(param(0, 1, 2, 32))
	wantRun(t, "width 32", made, list(mat(1, 2, 32, 0, 0)), 0, mat(1, 2, 32, 1, nan), nil, api.Fault{Err: api.ErrNaN, At: 1})
	wantRun(t, "width 32", made, list(mat(1, 2, 32, 0, 0)), 0, mat(1, 2, 32, inf, nan), nil, api.Fault{Err: api.ErrInf})
}

// TestP1201Stops: of the nodes whose adjoint is not finite the one nearest to the node, at its first such element; by that element ErrNaN or ErrInf.
func TestP1201Stops(t *testing.T) {
	for _, width := range widths {
		g := great[width]
		made := tapeOf(input(0, 1, 3, width), takes(api.OpAdd, 0, 0), takes(api.OpAdd, 1, 1), takes(api.OpNeg, 2), takes(api.OpSum, 0))
		values := valuesOf(t, made, list(mat(1, 3, width, 1, 2, 3)), nil)
		for _, c := range []struct {
			seed []float64
			want api.Fault
		}{
			{row(1, g, 1), api.Fault{Err: api.ErrInf, Node: 1, At: 1}},
			{row(1, g/2, 1), api.Fault{Err: api.ErrInf, Node: 0, At: 1}},
			{row(g/2, g/2, g), api.Fault{Err: api.ErrInf, Node: 1, At: 2}}, // of node 0 it would be the first one
			{row(1, 1, -g/2), api.Fault{Err: api.ErrInf, Node: 0, At: 2}},
			{row(g, g, g), api.Fault{Err: api.ErrInf, Node: 1}},
		} {
			wantRun(t, "stops", made, values, 3, mat(1, 3, width, c.seed...), nil, c.want)
		}
		root := tapeOf(input(0, 2, 2, width), takes(api.OpSqrt, 0))
		values = valuesOf(t, root, list(mat(2, 2, width, 1, 0, 0, 0)), nil)
		wantRun(t, "infinite ahead", root, values, 1, mat(2, 2, width, 1, -1, 0, 0), nil, api.Fault{Err: api.ErrInf, At: 1})
		wantRun(t, "no number ahead", root, values, 1, mat(2, 2, width, 1, 0, 1, 0), nil, api.Fault{Err: api.ErrNaN, At: 1})
		// Two leaves that both stop: the one with the greater number is nearer, whichever place it stands at.
		for _, in := range [][]int{{0, 1}, {1, 0}} {
			both := tapeOf(input(0, 1, 2, width), input(1, 1, 2, width), takes(api.OpMul, in...))
			values = valuesOf(t, both, list(mat(1, 2, width, 4, 4), mat(1, 2, width, 4, 4)), nil)
			wantRun(t, "both", both, values, 2, mat(1, 2, width, 0, g), nil, api.Fault{Err: api.ErrInf, Node: 1, At: 1})
			values = valuesOf(t, both, list(mat(1, 2, width, 4, 4), mat(1, 2, width, 1, 1)), nil)
			wantRun(t, "one", both, values, 2, mat(1, 2, width, 0, g), nil, api.Fault{Err: api.ErrInf, Node: 1, At: 1})
			values = valuesOf(t, both, list(mat(1, 2, width, 1, 1), mat(1, 2, width, 4, 4)), nil)
			wantRun(t, "the other", both, values, 2, mat(1, 2, width, g, 0), nil, api.Fault{Err: api.ErrInf, Node: 0})
		}
		// A branch that is gone into first stops behind one that is nearer.
		far := tapeOf(input(0, 1, 1, width), input(1, 1, 1, width), takes(api.OpAdd, 0, 0), takes(api.OpAdd, 1, 1), takes(api.OpNeg, 3), takes(api.OpNeg, 2), takes(api.OpGlueCols, 5, 4))
		values = valuesOf(t, far, list(mat(1, 1, width, 1), mat(1, 1, width, 1)), nil)
		wantRun(t, "branches", far, values, 6, mat(1, 2, width, g, g), nil, api.Fault{Err: api.ErrInf, Node: 1})
		wantRun(t, "branches", far, values, 6, mat(1, 2, width, g, 0), nil, api.Fault{Err: api.ErrInf, Node: 0})
	}
}

// TestP1201Behind: more nodes behind the node turn no adjoint.
func TestP1201Behind(t *testing.T) {
	for seed := range int64(60) {
		r := rand.New(rand.NewSource(seed))
		made := grown(r, 25)
		inputs, params := fill(r, made)
		values, f := eval.Run(made, inputs, params)
		if f != (api.Fault{}) {
			continue
		}
		node := r.Intn(len(made.Nodes))
		g := near(r, values[node].Rows, values[node].Cols, values[node].Width)
		got, f := reverse.Run(made, values, node, g)
		more := behind(made, takes(api.OpNeg, 0), constant(good), takes(api.OpMul, 0, 0), takes(api.OpNeg, node))
		all, h := reverse.Run(more, valuesOf(t, more, inputs, params), node, g)
		if f != h || f == (api.Fault{}) && !sameAll(all[:len(got)], got) {
			t.Fatalf("nodes behind turn %v %v to %v %v", got, f, all, h)
		}
	}
}

// spoil turns something in a list of matrices.
func spoil(r *rand.Rand, l []api.Matrix) []api.Matrix {
	l = copies(l)
	if len(l) == 0 || r.Intn(8) == 0 {
		return append(l, some(r, 1, 1, 64))
	}
	m := &l[r.Intn(len(l))]
	if len(m.Bits) == 0 || m.Width != 32 && m.Width != 64 { // It was spoilt already.
		return l
	}
	at := r.Intn(len(m.Bits))
	switch r.Intn(10) {
	case 0:
		return l[:len(l)-1]
	case 1:
		m.Rows, m.Cols = m.Cols, m.Rows
	case 2:
		m.Width = append(noWidths, 32, 64)[r.Intn(len(noWidths)+2)]
	case 3:
		m.Rows = ends[r.Intn(len(ends))]
	case 4:
		m.Cols = ends[r.Intn(len(ends))]
	case 5:
		m.Bits = append(m.Bits, 0)
	case 6:
		m.Bits = m.Bits[:at]
	case 7:
		m.Bits[at] = infinite(m.Width)
	case 8:
		m.Bits[at] = none(m.Width) + r.Intn(2)
	case 9:
		m.Bits[at] ^= 1 << r.Intn(m.Width)
	}
	return l
}

// TestP1201Mixed: Run tells what the chapter says, of mixed tapes, nodes and seeds, right or spoilt.
func TestP1201Mixed(t *testing.T) {
	done, stops := 0, 0
	for seed := range int64(400) {
		r := rand.New(rand.NewSource(seed))
		made := grown(r, 1+r.Intn(25))
		inputs, params := fill(r, made)
		values, f := eval.Run(made, inputs, params)
		if f != (api.Fault{}) {
			continue
		}
		for range 5 {
			node := r.Intn(len(values))
			m := values[node]
			g := kinds[r.Intn(len(kinds))](r, m.Rows, m.Cols, m.Width)
			want, f := runOf(made, values, node, g)
			wantRun(t, "mixed", made, values, node, g, want, f)
			if f == (api.Fault{}) {
				done++
			} else {
				stops++
			}
			if bad := spoil(r, list(g)); len(bad) > 0 {
				want, f = runOf(made, values, node, bad[0])
				wantRun(t, "a seed spoilt", made, values, node, bad[0], want, f)
			}
			bad := spoil(r, values)
			want, f = runOf(made, bad, node, g)
			wantRun(t, "values spoilt", made, bad, node, g, want, f)
		}
	}
	if done < 500 || stops < 5 {
		t.Errorf("%d have adjoints, %d stop", done, stops)
	}
}
