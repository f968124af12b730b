package bound_test

import (
	"math/rand"
	"testing"

	"pupil/api"
	"pupil/eval"
	"pupil/forward"
	"pupil/reverse"
)

// wantFaults holds the three calls against a fault each, with nothing beside it; none stands for no fault.
func wantFaults(t *testing.T, what string, x told, ahead, back, both api.Fault) {
	t.Helper()
	spans, f := x.forward()
	if f != ahead || f != (api.Fault{}) && len(spans) > 0 {
		t.Errorf("%s: Forward tells %x %v, want %v", what, spans, f, ahead)
	}
	spans, f = x.reverse()
	if f != back || f != (api.Fault{}) && len(spans) > 0 {
		t.Errorf("%s: Reverse tells %x %v, want %v", what, spans, f, back)
	}
	got, f := x.tell()
	if f != both || f != (api.Fault{}) && got != (api.Told{}) {
		t.Errorf("%s: Tell tells %x %v, want %v", what, got, f, both)
	}
}

// right tells a call of the net that is right.
func right() told {
	nought, seed := mat(1, 1, 64, 0), mat(1, 1, 64, 1)
	return told{net(), list(good, tall, nought, nought), list(mat(1, 2, 64, 1, 1)), list(mat(2, 1, 64, 0, 0)), 3, seed}
}

// TestP1301Tape: the tape's fault, and that of the values, come ahead of all others.
func TestP1301Tape(t *testing.T) {
	for _, c := range refused() {
		x := right()
		x.tape = c.tape
		wantFaults(t, "a tape", x, c.fault, c.fault, c.fault)
		wantFaults(t, "nothing given", told{tape: c.tape}, c.fault, c.fault, c.fault)
	}
	for _, c := range []struct {
		node int
		m    api.Matrix
		want api.Fault
	}{
		{0, api.Matrix{}, api.Fault{Err: api.ErrWidth}},
		{1, mat(1, 2, 64, 1, 2), api.Fault{Err: api.ErrShape, Node: 1}},
		{1, mat(2, 1, 64, 1, nan), api.Fault{Err: api.ErrNaN, Node: 1, At: 1}},
		{0, mat(1, 2, 64, 2, 2), api.Fault{Err: api.ErrBits, Node: 2}},
		{3, mat(1, 1, 64, neg0), api.Fault{Err: api.ErrBits, Node: 3}},
	} {
		x := right()
		x.values[c.node] = c.m
		wantFaults(t, "a value", x, c.want, c.want, c.want)
		x.inputs, x.params, x.node = nil, nil, -1
		wantFaults(t, "a value alone", x, c.want, c.want, c.want)
	}
	few := api.Fault{Err: api.ErrArg}
	for n := range 4 {
		x := right()
		x.values = x.values[:n]
		wantFaults(t, "too few", x, few, few, few)
	}
	x := right()
	x.values = append(x.values, good)
	wantFaults(t, "too many", x, few, few, few)
}

// TestP1301Direction: directions that don't fit stop Forward and Tell alone.
func TestP1301Direction(t *testing.T) {
	for _, c := range wrong(1, 2) {
		x := right()
		x.inputs = list(c.m)
		bad := api.Fault{Err: c.e}
		wantFaults(t, "an input's", x, bad, api.Fault{}, bad)
	}
	for _, c := range wrong(2, 1) {
		x := right()
		x.params = list(c.m)
		bad := api.Fault{Err: c.e, Node: 1}
		wantFaults(t, "a parameter's", x, bad, api.Fault{}, bad)
	}
	for _, l := range [][]api.Matrix{nil, {}, {good, good}} {
		x := right()
		x.inputs, x.params = l, nil
		bad := api.Fault{Err: api.ErrInput, Node: 4}
		wantFaults(t, "how many inputs", x, bad, api.Fault{}, bad)
		x = right()
		x.params = l
		bad = api.Fault{Err: api.ErrParam, Node: 4}
		wantFaults(t, "how many parameters", x, bad, api.Fault{}, bad)
	}
	x := right()
	x.inputs = list(mat(1, 2, 64, 1, inf))
	bad := api.Fault{Err: api.ErrInf, At: 1}
	wantFaults(t, "infinite", x, bad, api.Fault{}, bad)
	x.node = -1 // Forward's fault is told first.
	wantFaults(t, "both", x, bad, api.Fault{Err: api.ErrNode}, bad)
}

// TestP1302Seed: nodes and seeds that don't fit stop Reverse and Tell alone.
func TestP1302Seed(t *testing.T) {
	none := api.Fault{Err: api.ErrNode}
	for _, node := range ends {
		if node >= 0 && node < 4 {
			continue
		}
		x := right()
		x.node = node
		wantFaults(t, "no node", x, api.Fault{}, none, none)
		x.seed = api.Matrix{}
		wantFaults(t, "no node, no seed", x, api.Fault{}, none, none)
	}
	for _, c := range wrong(2, 1) {
		x := right()
		x.node, x.seed = 1, c.m
		bad := api.Fault{Err: c.e, Node: 1}
		wantFaults(t, "a seed", x, api.Fault{}, bad, bad)
	}
	for _, m := range list(mat(1, 1, 64, nan), mat(1, 1, 64, -inf)) {
		x := right()
		x.seed = m
		bad := api.Fault{Err: api.ErrInf, Node: 3}
		if m.Bits[0] == api.NaN {
			bad.Err = api.ErrNaN
		}
		wantFaults(t, "a seed that is not finite", x, api.Fault{}, bad, bad)
	}
	empty := told{node: 0}
	wantFaults(t, "an empty tape", empty, api.Fault{}, none, none)
	if spans, f := empty.forward(); len(spans) != 0 || f != (api.Fault{}) {
		t.Errorf("an empty tape: %v %v", spans, f)
	}
}

// TestP1303Stops: where tangents or adjoints stop, so does Tell, by forward's fault first.
func TestP1303Stops(t *testing.T) {
	for _, w := range widths {
		one, g := mat(1, 1, w, 1), great[w]
		root := tapeOf(input(0, 1, 1, w), takes(api.OpNeg, 0), takes(api.OpNeg, 1), takes(api.OpSqrt, 2), takes(api.OpNeg, 0))
		values := valuesOf(t, root, list(mat(1, 1, w, 0)), nil)
		ahead, back := api.Fault{Err: api.ErrInf, Node: 3}, api.Fault{Err: api.ErrInf, Node: 2}
		wantFaults(t, "a root", told{root, values, list(one), nil, 3, one}, ahead, back, ahead)
		wantFaults(t, "beside a root", told{root, values, list(one), nil, 4, one}, ahead, api.Fault{}, ahead)
		ahead.Err, back.Err = api.ErrNaN, api.ErrNaN
		wantFaults(t, "a root from noughts", told{root, values, list(mat(1, 1, w, 0)), nil, 3, mat(1, 1, w, neg0)}, ahead, back, ahead)
		double := tapeOf(input(0, 1, 2, w), takes(api.OpAdd, 0, 0), takes(api.OpSum, 1))
		values = valuesOf(t, double, list(mat(1, 2, w, 1, 2)), nil)
		still, far := mat(1, 2, w, 1, 1), mat(1, 2, w, 1, g)
		ahead, back = api.Fault{Err: api.ErrInf, Node: 1, At: 1}, api.Fault{Err: api.ErrInf}
		wantFaults(t, "ahead alone", told{double, values, list(far), nil, 2, one}, ahead, api.Fault{}, ahead)
		wantFaults(t, "back alone", told{double, values, list(still), nil, 2, mat(1, 1, w, g)}, api.Fault{}, back, back)
		wantFaults(t, "both", told{double, values, list(far), nil, 2, mat(1, 1, w, g)}, ahead, back, ahead)
	}
}

// spoil turns something in a list of matrices.
func spoil(r *rand.Rand, l []api.Matrix) []api.Matrix {
	l = copies(l)
	if len(l) == 0 || r.Intn(8) == 0 {
		return append(l, some(r, 1, 1, 64))
	}
	m := &l[r.Intn(len(l))]
	if len(m.Bits) == 0 || m.Width != 32 && m.Width != 64 { // It was spoilt already.
		return l
	}
	at := r.Intn(len(m.Bits))
	switch r.Intn(10) {
	case 0:
		return l[:len(l)-1]
	case 1:
		m.Rows, m.Cols = m.Cols, m.Rows
	case 2:
		m.Width = append(noWidths, 32, 64)[r.Intn(len(noWidths)+2)]
	case 3:
		m.Rows = ends[r.Intn(len(ends))]
	case 4:
		m.Cols = ends[r.Intn(len(ends))]
	case 5:
		m.Bits = append(m.Bits, 0)
	case 6:
		m.Bits = m.Bits[:at]
	case 7:
		m.Bits[at] = infinite(m.Width)
	case 8:
		m.Bits[at] = none(m.Width) + r.Intn(2)
	case 9:
		m.Bits[at] ^= 1 << r.Intn(m.Width)
	}
	return l
}

// TestP1301Every: every operation in both widths, from each node.
func TestP1301Every(t *testing.T) {
	for _, width := range widths {
		made := every(width)
		inputs, params := ofEvery(width)
		values := valuesOf(t, made, inputs, params)
		r := rand.New(rand.NewSource(14))
		for node, m := range values {
			in, par := fill(r, made)
			if !wantAll(t, "every", told{made, values, in, par, node, near(r, m.Rows, m.Cols, m.Width)}) {
				t.Errorf("node %d stops", node)
			}
		}
	}
}

// mixed tells calls of mixed tapes that have values.
func mixed(count int64) []told {
	var l []told
	for seed := range count {
		r := rand.New(rand.NewSource(seed))
		made := grown(r, 1+r.Intn(25))
		inputs, params := fill(r, made)
		values, f := eval.Run(made, inputs, params)
		if f != (api.Fault{}) {
			continue
		}
		x := told{tape: made, values: values, node: r.Intn(len(values))}
		x.inputs, x.params = fill(r, made)
		m := values[x.node]
		x.seed = kinds[r.Intn(5)](r, m.Rows, m.Cols, m.Width)
		l = append(l, x)
	}
	return l
}

// TestP1303Mixed: all three calls tell what the chapter says, of mixed tapes, directions, nodes and seeds, right or spoilt.
func TestP1303Mixed(t *testing.T) {
	done, stops := 0, 0
	r := rand.New(rand.NewSource(17))
	for _, x := range mixed(200) {
		if wantAll(t, "mixed", x) {
			done++
		} else {
			stops++
		}
		bad := x
		switch r.Intn(4) {
		case 0:
			bad.values = spoil(r, x.values)
		case 1:
			bad.inputs = spoil(r, x.inputs)
		case 2:
			bad.params = spoil(r, x.params)
		case 3:
			bad.seed = append(spoil(r, list(x.seed)), api.Matrix{})[0]
		}
		_, f := forward.Run(bad.tape, bad.values, bad.inputs, bad.params)
		_, g := reverse.Run(bad.tape, bad.values, bad.node, bad.seed)
		both := f
		if f == (api.Fault{}) {
			both = g
		}
		wantFaults(t, "spoilt", bad, f, g, both)
	}
	if done < 80 || stops < 3 {
		t.Errorf("%d are told, %d stop", done, stops)
	}
}
