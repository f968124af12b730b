package eval_test

import (
	"math"
	"math/rand"
	"testing"

	"pupil/api"
	"pupil/eval"
)

var (
	inf  = math.Inf(1)
	nan  = math.NaN()
	good = mat(1, 2, 64, 1, 2)
	tall = mat(2, 1, 64, 0.5, -0.25)
)

// ofEvery tells matrices with which a tape of every operation is reckoned to its end.
func ofEvery(width int) (inputs, params []api.Matrix) {
	return list(mat(1, 6, width, 1, -2, 0.5, 3, -0.125, 4), mat(2, 3, width, 1, 2, 3, -4, 5, 0.75)),
		list(mat(1, 1, width, 1.5), mat(3, 2, width, 1, 0.5, -2, 3, 0.25, -1))
}

// TestP1001Every: every operation in both widths; some values reckoned by hand.
func TestP1001Every(t *testing.T) {
	for _, width := range widths {
		made := every(width)
		inputs, params := ofEvery(width)
		want, f := runOf(made, inputs, params)
		wantRun(t, "every", made, inputs, params, want, api.Fault{})
		if f != (api.Fault{}) || len(want) != len(made.Nodes) {
			t.Fatalf("the chapter reckoned once more: %v", f)
		}
		got, _ := eval.Run(made, inputs, params)
		for node, m := range map[int]api.Matrix{
			0:  inputs[1],
			1:  params[1],
			2:  inputs[0],
			3:  params[0],
			4:  mat(2, 1, width, 0.25, 3),
			5:  mat(2, 3, width, 1.25, 2.25, 3.25, -1, 8, 3.75),
			6:  mat(2, 3, width, 0.5, -0.5, -1.5, 5.5, -3.5, 0.75),
			10: mat(2, 3, width, 0.5, 0, 0, 5.5, 0, 0.75),
			18: mat(3, 3, width, -1, 4.5, 3.375, -14, 11, -3.75, 4.25, -4.5, 0),
			27: mat(1, 1, width, 7.75),
			31: mat(3, 1, width, 1, 3, 0.25),
			34: mat(2, 3, 96-width, 1, 2, 3, -4, 5, 0.75),
		} {
			if !same(got[node], m) {
				t.Errorf("node %d: %v, want %v", node, got[node], m)
			}
		}
	}
}

// TestP1001Empty: a tape without nodes has no values, and takes nothing.
func TestP1001Empty(t *testing.T) {
	wantRun(t, "nothing", api.Tape{}, nil, nil, nil, api.Fault{})
	wantRun(t, "empty lists", tapeOf(), []api.Matrix{}, []api.Matrix{}, nil, api.Fault{})
	wantRun(t, "an input", api.Tape{}, list(good), nil, nil, api.Fault{Err: api.ErrInput})
	wantRun(t, "a parameter", api.Tape{}, nil, list(good), nil, api.Fault{Err: api.ErrParam})
	wantRun(t, "both", api.Tape{}, list(good), list(good), nil, api.Fault{Err: api.ErrInput})
	wantRun(t, "a constant alone", tapeOf(constant(good)), nil, nil, list(good), api.Fault{})
}

// TestP1001Tape: the tape's fault comes ahead of all others.
func TestP1001Tape(t *testing.T) {
	for _, x := range refused() {
		wantRun(t, "right ones", x.tape, list(good), list(tall), nil, x.fault)
		wantRun(t, "none", x.tape, nil, nil, nil, x.fault)
		wantRun(t, "not in form", x.tape, list(api.Matrix{}), list(api.Matrix{}), nil, x.fault)
		wantRun(t, "not finite", x.tape, list(mat(1, 2, 64, nan, inf)), list(tall), nil, x.fault)
	}
	wantRun(t, "as many nodes as there may be", long(api.MaxNodes), list(good), nil, nil, api.Fault{Err: api.ErrShape})
}

// TestP1001Counts: too few and too many inputs, then parameters.
func TestP1001Counts(t *testing.T) {
	bad := api.Matrix{}
	noInput, noParam := api.Fault{Err: api.ErrInput, Node: 4}, api.Fault{Err: api.ErrParam, Node: 4}
	wantRun(t, "no input", net(), nil, list(tall), nil, noInput)
	wantRun(t, "an empty list", net(), []api.Matrix{}, list(tall), nil, noInput)
	wantRun(t, "two inputs", net(), list(good, good), list(tall), nil, noInput)
	wantRun(t, "two inputs not in form", net(), list(bad, bad), nil, nil, noInput)
	wantRun(t, "no parameter", net(), list(good), nil, nil, noParam)
	wantRun(t, "two parameters", net(), list(good), list(tall, tall), nil, noParam)
	wantRun(t, "two not in form", net(), list(good), list(bad, bad), nil, noParam)
	wantRun(t, "neither", net(), nil, nil, nil, noInput)
	wantRun(t, "an input ahead of how many parameters", net(), list(tall), nil, nil, api.Fault{Err: api.ErrShape})
	more := tapeOf(constant(good), param(0, 2, 1, 64), takes(api.OpNeg, 0))
	wantRun(t, "no input is taken", more, list(good), list(tall), nil, api.Fault{Err: api.ErrInput, Node: 3})
	wantRun(t, "many", more, nil, make([]api.Matrix, 1000), nil, api.Fault{Err: api.ErrParam, Node: 3})
}

// wrong has matrices that don't fit a node of 1 by 2 (2 by 1, if turned), width 64, each with its error.
func wrong(rows, cols int) []struct {
	m api.Matrix
	e api.Errno
} {
	l := []struct {
		m api.Matrix
		e api.Errno
	}{
		{api.Matrix{}, api.ErrWidth},
		{api.Matrix{Rows: rows, Cols: cols, Width: 64}, api.ErrShape},
		{api.Matrix{Rows: rows, Cols: cols, Width: 64, Bits: []int{1}}, api.ErrShape},
		{api.Matrix{Rows: rows, Cols: cols, Width: 64, Bits: []int{1, 2, 3}}, api.ErrShape},
		{api.Matrix{Rows: rows, Cols: cols, Width: 32, Bits: []int{1, -1}}, api.ErrBits},
		{api.Matrix{Rows: rows, Cols: cols, Width: 32, Bits: []int{1 << 32, 0}}, api.ErrBits},
		{api.Matrix{Rows: 1, Cols: 4097, Width: 32, Bits: make([]int, 4097)}, api.ErrLong},
		{mat(rows, cols, 32, 1, 2), api.ErrWidth},
		{mat(cols, rows, 32, 1, 2), api.ErrWidth},
		{mat(rows, cols, 32, nan, inf), api.ErrWidth},
		{mat(cols, rows, 64, 1, 2), api.ErrShape},
		{mat(cols, rows, 64, nan, inf), api.ErrShape},
		{mat(1, 1, 64, 1), api.ErrShape},
		{mat(rows+1, cols, 64, make([]float64, (rows+1)*cols)...), api.ErrShape},
		{mat(rows, cols+1, 64, make([]float64, rows*(cols+1))...), api.ErrShape},
		{mat(2, 2, 64, 1, 2, 3, 4), api.ErrShape},
	}
	for _, n := range append(noWidths, 0) {
		l = append(l, struct {
			m api.Matrix
			e api.Errno
		}{api.Matrix{Rows: rows, Cols: cols, Width: n, Bits: []int{1, 2}}, api.ErrWidth})
	}
	for _, n := range ends {
		if n != rows {
			e := api.ErrShape
			if n >= 1 && n > 4096/cols {
				e = api.ErrLong
			}
			l = append(l, struct {
				m api.Matrix
				e api.Errno
			}{api.Matrix{Rows: n, Cols: cols, Width: 64, Bits: []int{1, 2}}, e})
		}
	}
	return l
}

// TestP1001Fits: inputs, then parameters, that don't fit their nodes.
func TestP1001Fits(t *testing.T) {
	for _, x := range wrong(1, 2) {
		wantRun(t, "an input", net(), list(x.m), list(tall), nil, api.Fault{Err: x.e})
		wantRun(t, "ahead of the parameters", net(), list(x.m), nil, nil, api.Fault{Err: x.e})
	}
	for _, x := range wrong(2, 1) {
		wantRun(t, "a parameter", net(), list(good), list(x.m), nil, api.Fault{Err: x.e, Node: 1})
		wantRun(t, "ahead of what is not finite", net(), list(mat(1, 2, 64, inf, nan)), list(x.m), nil, api.Fault{Err: x.e, Node: 1})
	}
}

// TestP1001Order: inputs and parameters are looked at by their numbers, not by their nodes; their values are reckoned by nodes.
func TestP1001Order(t *testing.T) {
	made := tapeOf(param(1, 1, 1, 64), input(2, 1, 3, 64), input(0, 1, 1, 64), param(0, 1, 2, 64), input(1, 1, 2, 64))
	one, two, three := mat(1, 1, 64, 1), mat(1, 2, 64, 1, 2), mat(1, 3, 64, 1, 2, 3)
	bad := mat(2, 2, 64, 1, 2, 3, 4)
	wantRun(t, "all right", made, list(one, two, three), list(two, one), list(one, three, one, two, two), api.Fault{})
	wantRun(t, "all inputs wrong", made, list(bad, bad, bad), list(two, one), nil, api.Fault{Err: api.ErrShape, Node: 2})
	wantRun(t, "the latter inputs wrong", made, list(one, bad, bad), list(two, one), nil, api.Fault{Err: api.ErrShape, Node: 4})
	wantRun(t, "the last input wrong", made, list(one, two, bad), list(bad, bad), nil, api.Fault{Err: api.ErrShape, Node: 1})
	wantRun(t, "the parameters wrong", made, list(one, two, three), list(bad, bad), nil, api.Fault{Err: api.ErrShape, Node: 3})
	wantRun(t, "the last parameter wrong", made, list(one, two, three), list(two, bad), nil, api.Fault{Err: api.ErrShape})
	wantRun(t, "by number, ErrWidth", made, list(mat(1, 1, 32, 1), bad, bad), list(two, one), nil, api.Fault{Err: api.ErrWidth, Node: 2})
	for _, x := range []struct {
		inputs, params []api.Matrix
		want           api.Fault
	}{
		{list(mat(1, 1, 64, inf), two, mat(1, 3, 64, 1, nan, inf)), list(two, one), api.Fault{Err: api.ErrNaN, Node: 1, At: 1}},
		{list(mat(1, 1, 64, inf), two, three), list(mat(1, 2, 64, nan, nan), one), api.Fault{Err: api.ErrInf, Node: 2}},
		{list(mat(1, 1, 64, inf), two, three), list(two, mat(1, 1, 64, nan)), api.Fault{Err: api.ErrNaN}},
		{list(one, mat(1, 2, 64, nan, 1), three), list(mat(1, 2, 64, 1, inf), one), api.Fault{Err: api.ErrInf, Node: 3, At: 1}},
		{list(one, mat(1, 2, 64, 1, nan), three), list(two, one), api.Fault{Err: api.ErrNaN, Node: 4, At: 1}},
	} {
		wantRun(t, "not finite, by nodes", made, x.inputs, x.params, nil, x.want)
	}
}

// TestP1001Stops: the first node, at its first element, that is not finite; by that element ErrNaN or ErrInf.
func TestP1001Stops(t *testing.T) {
	for _, width := range widths {
		big := mat(1, 1, width, math.MaxFloat32)
		if width == 64 {
			big = mat(1, 1, width, math.MaxFloat64)
		}
		made := tapeOf(constant(big), input(0, 1, 3, width), takes(api.OpMul, 0, 1), takes(api.OpSub, 2, 2), takes(api.OpDiv, 3, 3))
		for _, x := range []struct {
			x    []float64
			want api.Fault
		}{
			{[]float64{1, 0.5, 0.25}, api.Fault{Err: api.ErrNaN, Node: 4}},
			{[]float64{1, 2, 0.25}, api.Fault{Err: api.ErrInf, Node: 2, At: 1}},
			{[]float64{1, -1, -2}, api.Fault{Err: api.ErrInf, Node: 2, At: 2}},
			{[]float64{1, inf, nan}, api.Fault{Err: api.ErrInf, Node: 1, At: 1}},
			{[]float64{1, nan, inf}, api.Fault{Err: api.ErrNaN, Node: 1, At: 1}},
			{[]float64{1, 1, -inf}, api.Fault{Err: api.ErrInf, Node: 1, At: 2}},
		} {
			wantRun(t, "stops", made, list(mat(1, 3, width, x.x...)), nil, nil, x.want)
		}
		mixed := tapeOf(input(0, 1, 4, width), takes(api.OpLog, 0), takes(api.OpNeg, 1))
		wantRun(t, "an infinity ahead", mixed, list(mat(1, 4, width, 1, 0, -1, 0)), nil, nil, api.Fault{Err: api.ErrInf, Node: 1, At: 1})
		wantRun(t, "no number ahead", mixed, list(mat(1, 4, width, 1, 2, -1, 0)), nil, nil, api.Fault{Err: api.ErrNaN, Node: 1, At: 2})
	}
	wide := tapeOf(input(0, 1, 2, 64), takes(api.OpNarrow, 0), takes(api.OpWide, 1))
	wantRun(t, "too great for width 32", wide, list(mat(1, 2, 64, 1, 1e300)), nil, nil, api.Fault{Err: api.ErrInf, Node: 1, At: 1})
}

// TestP1001Patterns: any pattern that is no number stops a tape as no number does.
func TestP1001Patterns(t *testing.T) {
	made := func(width int) api.Tape { return tapeOf(input(0, 1, 2, width), takes(api.OpNeg, 0)) }
	for width, l := range map[int][]int{32: {0x7F800001, 0xFF800001, 0xFFFFFFFF, 0x7FC00000}, 64: {api.Inf + 1, -1, math.MinInt + api.Inf + 1, math.MaxInt}} {
		for _, x := range l {
			m := api.Matrix{Rows: 1, Cols: 2, Width: width, Bits: []int{0, x}}
			wantRun(t, "a pattern", made(width), list(m), nil, nil, api.Fault{Err: api.ErrNaN, At: 1})
			wantCheck(t, "a pattern", made(width), list(m, m), api.Fault{Err: api.ErrNaN, At: 1})
		}
	}
}

// TestP1004Behind: which node stops a tape hangs on the nodes up to it alone.
func TestP1004Behind(t *testing.T) {
	stops := 0
	for seed := range int64(120) {
		r := rand.New(rand.NewSource(seed))
		made := grown(r, 30)
		inputs, params := fill(r, made)
		_, f := eval.Run(made, inputs, params)
		if f == (api.Fault{}) {
			continue
		}
		stops++
		leaves := count(api.Tape{Nodes: made.Nodes[f.Node+1:]}, api.OpInput) + count(api.Tape{Nodes: made.Nodes[f.Node+1:]}, api.OpParam)
		if leaves == 0 { // Else numbers may be missing, and the tape that is cut takes others.
			wantRun(t, "cut behind the stop", api.Tape{Nodes: made.Nodes[:f.Node+1]}, inputs, params, nil, f)
		}
		wantRun(t, "more behind", behind(made, takes(api.OpNeg, f.Node), takes(api.OpSum, 0)), inputs, params, nil, f)
		wantRun(t, "a constant behind", behind(made, constant(good)), inputs, params, nil, f)
	}
	if stops < 20 {
		t.Errorf("%d tapes stop", stops)
	}
	log := tapeOf(input(0, 1, 2, 64), takes(api.OpLog, 0))
	for _, n := range []api.Node{takes(api.OpNeg, 0), takes(api.OpLog, 1), takes(api.OpDiv, 0, 0), takes(api.OpSum, 1), constant(good)} {
		wantRun(t, "log and more", behind(log, n), list(mat(1, 2, 64, 1, 0)), nil, nil, api.Fault{Err: api.ErrInf, Node: 1, At: 1})
	}
}
