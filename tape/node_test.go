package tape_test

import (
	"math"
	"slices"
	"testing"

	"pupil/api"
	"pupil/kernel"
	"pupil/tape"
	"pupil/tensor"
)

// faulty tells whether a node behind right ones is refused with an error, at a place: by Check, with its number and nothing beside, and by Put; and whether the reference says so too.
func faulty(t *testing.T, ahead api.Tape, n api.Node, want api.Errno, at int) {
	t.Helper()
	full := behind(ahead, n)
	f := api.Fault{Err: want, Node: len(ahead.Nodes), At: at}
	if shapes, got := tape.Check(full); got != f || len(shapes) != 0 {
		t.Errorf("Check, at last %v: %v, %v; want %v", n, shapes, got, f)
	}
	if _, got := rightOf(full); got != f {
		t.Errorf("the reference, at last %v: %v; want %v", n, got, f)
	}
	if made, number, e := tape.Put(ahead, n); e != want || number != 0 || len(made.Nodes) != 0 {
		t.Errorf("Put(%v): %v, %d, %v; want %v", n, made, number, e, want)
	}
	// Nothing behind it is looked at, nor the numbers that are missing.
	if shapes, got := tape.Check(behind(full, api.Node{Op: -1}, param(9, 1, 1, 64))); got != f || len(shapes) != 0 {
		t.Errorf("Check, with more behind %v: %v, %v; want %v", n, shapes, got, f)
	}
	if made, number, e := tape.Put(full, api.Node{Op: -1}); e != want || number != 0 || len(made.Nodes) != 0 {
		t.Errorf("Put behind %v: %v, %d, %v; want %v", n, made, number, e, want)
	}
}

// right tells whether a node behind right ones is taken by Put, with a shape.
func right(t *testing.T, ahead api.Tape, n api.Node, want api.Shape) {
	t.Helper()
	made, number, e := tape.Put(ahead, n)
	if e != api.OK || number != len(ahead.Nodes) || !sameTape(made, behind(ahead, n)) {
		t.Errorf("Put(%v): %v, %d, %v", n, made, number, e)
	}
	if e, _, s := last(made); e != api.OK || s != want {
		t.Errorf("the reference, of %v: %v, %v; want %v", n, s, e, want)
	}
	shapes, f := tape.Check(made)
	missing := f.Node == number+1 && (f.Err == api.ErrInput || f.Err == api.ErrParam)
	if !missing && (f != (api.Fault{}) || len(shapes) != number+1 || shapes[number] != want) {
		t.Errorf("Check, at last %v: %v, %v; want %v", n, shapes, f, want)
	}
}

// last tells what the reference says of the last node.
func last(made api.Tape) (api.Errno, int, api.Shape) {
	at := len(made.Nodes) - 1
	shapes, _ := rightOf(api.Tape{Nodes: made.Nodes[:at]})
	return nodeOf(made.Nodes[:at], shapes, made.Nodes[at])
}

// alike tells whether a node behind right ones is what the reference says of it.
func alike(t *testing.T, ahead api.Tape, n api.Node) {
	t.Helper()
	if e, at, s := last(behind(ahead, n)); e != api.OK {
		faulty(t, ahead, n, e, at)
	} else {
		right(t, ahead, n, s)
	}
}

// TestP901Every: every operation in both widths, put one behind the other.
func TestP901Every(t *testing.T) {
	for _, width := range widths {
		var made api.Tape
		for _, x := range every(width) {
			right(t, made, x.node, x.want)
			made = behind(made, x.node)
		}
		want, shapes := all(every(width))
		if got, f := tape.Check(want); f != (api.Fault{}) || !slices.Equal(got, shapes) {
			t.Errorf("width %d: %v, %v; want %v", width, got, f, shapes)
		}
	}
}

// TestP901Long: MaxNodes nodes are a tape, one more are none, whatever it is.
func TestP901Long(t *testing.T) {
	for _, count := range []int{1022, 1023, 1024} {
		if shapes, f := tape.Check(long(count)); f != (api.Fault{}) || len(shapes) != count {
			t.Errorf("%d nodes: %d shapes, %v", count, len(shapes), f)
		}
	}
	right(t, long(1023), takes(api.OpNeg, 1022), api.Shape{Rows: 1, Cols: 1, Width: 64})
	for _, n := range []api.Node{takes(api.OpNeg, 0), takes(api.OpNeg, 5000), {Op: -1}, {Op: api.OpConst, A: 1}, {}, input(-1, 0, 0, 0)} {
		faulty(t, long(1024), n, api.ErrLong, 0)
	}
	if shapes, f := tape.Check(long(1025)); f != (api.Fault{Err: api.ErrLong, Node: 1024}) || len(shapes) != 0 {
		t.Errorf("1025 nodes: %v", f)
	}
	if made, number, e := tape.Put(long(2000), takes(api.OpNeg, 0)); e != api.ErrLong || number != 0 || len(made.Nodes) != 0 {
		t.Errorf("Put behind 2000: %v", e)
	}
	// What is wrong ahead of it is told.
	wrong := long(1025)
	wrong.Nodes[1023].Op = 9
	if _, f := tape.Check(wrong); f != (api.Fault{Err: api.ErrOp, Node: 1023}) {
		t.Errorf("1025 nodes with a wrong one: %v", f)
	}
}

// TestP901Ops: api's operations are all, whatever else is given.
func TestP901Ops(t *testing.T) {
	list := slices.Clone(ends)
	for op := -70; op < 140; op++ {
		list = append(list, op)
	}
	for _, op := range list {
		for _, n := range []api.Node{{}, takes(0, 0), numbers(0, 1, 1, 0), takes(0, 0, 0), input(0, 1, 1, 64), constant(1, 1, 64, 0), {A: -1, B: 5, In: []int{9}, Rows: 1, Bits: []int{-1}}} {
			n.Op = op
			_, f := tape.Check(behind(net(), n))
			if (f.Err == api.ErrOp) == slices.Contains(ops(), op) {
				t.Errorf("operation %d: %v", op, f)
			}
			alike(t, net(), n)
		}
	}
}

// turned tells a node with one of its fields, which are numbered, holding something.
func turned(n api.Node, field, number int) api.Node {
	switch field {
	case 0:
		n.A = number
	case 1:
		n.B = number
	case 2:
		n.Rows = number
	case 3:
		n.Cols = number
	case 4:
		n.Width = number
	case 5:
		n.Bits = []int{number}
	case 6:
		n.In = []int{number}
	}
	return n
}

// TestP901Fields: each field of each operation that does not use it, by itself and with all that could be wrong behind it.
func TestP901Fields(t *testing.T) {
	unused := func(op, field int) bool {
		rule, _ := ruleOf(op)
		leaf := op <= api.OpConst
		switch field {
		case 0:
			return !rule.numbers && (!leaf || op == api.OpConst)
		case 1:
			return !rule.numbers
		case 2, 3, 4:
			return !leaf
		case 5:
			return op != api.OpConst
		}
		return leaf
	}
	for _, width := range widths {
		list := every(width)
		full, _ := all(list)
		for at, x := range list {
			ahead := api.Tape{Nodes: full.Nodes[:at]}
			for field := range 7 {
				for _, number := range []int{0, 1, 2, -1, 32, 64, math.MinInt, math.MaxInt} {
					n := turned(x.node, field, number)
					alike(t, ahead, n)
					if !unused(n.Op, field) || number == 0 && field < 5 {
						continue
					}
					faulty(t, ahead, n, api.ErrArg, 0)
					if len(n.In) > 0 {
						n.In = slices.Repeat([]int{-1}, len(n.In))
					}
					if n.Op <= api.OpConst {
						n.Width = 16
					}
					faulty(t, ahead, n, api.ErrArg, 0)
				}
			}
		}
	}
}

// TestP901Counts: too few nodes and too many.
func TestP901Counts(t *testing.T) {
	for _, op := range ops() {
		rule, _ := ruleOf(op)
		for count := range 6 {
			wrong := count != rule.takes
			if rule.takes == -1 {
				wrong = count == 0
			}
			for _, number := range []int{0, 3, 4, -1} {
				n := takes(op, slices.Repeat([]int{number}, count)...)
				if wrong {
					faulty(t, net(), n, api.ErrArg, 0)
				}
				alike(t, net(), n)
			}
		}
	}
	ahead := tapeOf(constant(1, 1, 32, 0))
	right(t, ahead, takes(api.OpGlueCols, make([]int, 4096)...), api.Shape{Rows: 1, Cols: 4096, Width: 32})
	right(t, ahead, takes(api.OpGlueRows, make([]int, 4096)...), api.Shape{Rows: 4096, Cols: 1, Width: 32})
	faulty(t, ahead, takes(api.OpGlueRows, make([]int, 4097)...), api.ErrLong, 0)
}

// TestP901Nodes: a node takes those ahead of it alone; the place of the first that is none.
func TestP901Nodes(t *testing.T) {
	for _, width := range widths {
		full, _ := all(every(width))
		for at, n := range full.Nodes {
			ahead := api.Tape{Nodes: full.Nodes[:at]}
			for place := range n.In {
				for _, number := range append(ends, at-1, at, at+1) {
					n.In = slices.Clone(full.Nodes[at].In)
					n.In[place] = number
					if number < 0 || number >= at {
						faulty(t, ahead, n, api.ErrNode, place)
						n.In[len(n.In)-1] = -1
						faulty(t, ahead, n, api.ErrNode, place)
					} else {
						alike(t, ahead, n)
					}
				}
			}
		}
	}
	faulty(t, api.Tape{}, takes(api.OpNeg, 0), api.ErrNode, 0)
	many := append(make([]int, 4000), 1, 0, 1)
	faulty(t, tapeOf(constant(1, 1, 64, 0)), takes(api.OpGlueRows, many...), api.ErrNode, 4000)
}

// TestP901Shapes: the rows, columns and widths of inputs, parameters and constants.
func TestP901Shapes(t *testing.T) {
	for _, rows := range ends {
		for _, cols := range ends {
			for _, width := range append(noWidths, widths...) {
				m, e := tensor.Zero(rows, cols, width)
				for _, n := range []api.Node{input(0, rows, cols, width), param(63, rows, cols, width), constant(rows, cols, width, m.Bits...)} {
					if e == api.OK {
						right(t, api.Tape{}, n, api.Shape{Rows: rows, Cols: cols, Width: width})
					} else {
						faulty(t, api.Tape{}, n, e, 0)
					}
				}
			}
		}
	}
}

// TestP901Numbers: numbers of inputs and parameters: below 0, at the limits, twice; an input and a parameter may have one number.
func TestP901Numbers(t *testing.T) {
	for _, x := range []struct {
		made, other func(number, rows, cols, width int) api.Node
		limit       int
		want        api.Errno
	}{{input, param, 8, api.ErrInput}, {param, input, 64, api.ErrParam}} {
		for _, number := range ends {
			n := x.made(number, 2, 3, 32)
			if number < 0 || number >= x.limit {
				faulty(t, api.Tape{}, n, x.want, 0)
				continue
			}
			s := api.Shape{Rows: 2, Cols: 3, Width: 32}
			right(t, api.Tape{}, n, s)
			right(t, tapeOf(x.made(x.limit-1-number, 1, 1, 64), numbers(api.OpForm, 1, 1, 0)), n, s)
			faulty(t, tapeOf(n), n, x.want, 0)
			faulty(t, tapeOf(n, takes(api.OpSum, 0)), x.made(number, 1, 1, 64), x.want, 0)
			if number < 8 {
				right(t, tapeOf(x.other(number, 1, 1, 64)), n, s)
			}
		}
		var full api.Tape
		for number := range x.limit {
			full = behind(full, x.made(x.limit-1-number, 1, 1, 64))
		}
		for number := range x.limit {
			faulty(t, full, x.made(number, 1, 1, 64), x.want, 0)
		}
	}
}

// TestP901Constants: how many Bits a constant has, and which.
func TestP901Constants(t *testing.T) {
	for _, width := range widths {
		for count := range 9 {
			n := constant(2, 3, width, make([]int, count)...)
			if count == 6 {
				right(t, net(), n, api.Shape{Rows: 2, Cols: 3, Width: width})
			} else {
				faulty(t, net(), n, api.ErrShape, 0)
			}
		}
	}
	right(t, net(), constant(64, 64, 64, make([]int, 4096)...), api.Shape{Rows: 64, Cols: 64, Width: 64})
	for _, b := range []int{-1, 1 << 32, math.MinInt, math.MaxInt, api.NaN, api.Inf} {
		for place := range 4 {
			list := []int{0, 0, 0, 0}
			list[place] = b
			faulty(t, net(), constant(2, 2, 32, list...), api.ErrBits, 0)
			list[0] = api.NaN32
			alike(t, net(), constant(2, 2, 32, list...))
		}
	}
	for _, x := range []struct {
		b, width int
		want     api.Errno
	}{
		{0x7F800000, 32, api.ErrInf}, {0xFF800000, 32, api.ErrInf}, {0x7F800001, 32, api.ErrNaN}, {0x7FC00000, 32, api.ErrNaN}, {0xFFFFFFFF, 32, api.ErrNaN},
		{api.Inf, 64, api.ErrInf}, {math.MinInt | api.Inf, 64, api.ErrInf}, {api.Inf + 1, 64, api.ErrNaN}, {math.MaxInt, 64, api.ErrNaN}, {-1, 64, api.ErrNaN},
	} {
		for place := range 6 {
			list := make([]int, 6)
			list[place] = x.b
			faulty(t, net(), constant(2, 3, x.width, list...), x.want, place)
			for later := place + 1; later < 6; later++ {
				list[later] = []int{api.Inf32, api.NaN32, api.Inf, api.NaN}[x.width/64*2+later%2]
			}
			faulty(t, net(), constant(2, 3, x.width, list...), x.want, place)
		}
	}
	right(t, net(), constant(1, 4, 32, 0x7F7FFFFF, 0xFF7FFFFF, 1, 1<<31), api.Shape{Rows: 1, Cols: 4, Width: 32})
	right(t, net(), constant(1, 4, 64, api.Inf-1, math.MinInt|(api.Inf-1), 1, math.MinInt), api.Shape{Rows: 1, Cols: 4, Width: 64})
}

// TestP901Fit: what is taken and does not fit, as kernel.Shape says: every operation on nodes of many shapes.
func TestP901Fit(t *testing.T) {
	var ahead api.Tape
	for _, s := range []api.Shape{{Rows: 1, Cols: 1, Width: 64}, {Rows: 1, Cols: 2, Width: 64}, {Rows: 2, Cols: 1, Width: 64}, {Rows: 2, Cols: 3, Width: 64}, {Rows: 3, Cols: 2, Width: 64}, {Rows: 2, Cols: 3, Width: 32}, {Rows: 64, Cols: 64, Width: 64}, {Rows: 4096, Cols: 1, Width: 64}, {Rows: 1, Cols: 4096, Width: 64}} {
		ahead = behind(ahead, param(len(ahead.Nodes), s.Rows, s.Cols, s.Width))
	}
	shapes, _ := rightOf(ahead)
	hold := func(op, a, b int, in ...int) {
		t.Helper()
		var list []api.Shape
		for _, number := range in {
			list = append(list, shapes[number])
		}
		if s, e := kernel.Shape(op, a, b, list); e != api.OK {
			faulty(t, ahead, numbers(op, a, b, in...), e, 0)
		} else {
			right(t, ahead, numbers(op, a, b, in...), s)
		}
	}
	for _, op := range ops()[3:] {
		rule, _ := ruleOf(op)
		for first := range ahead.Nodes {
			if rule.takes != 2 && !rule.numbers {
				hold(op, 0, 0, first)
			}
			for _, a := range ends {
				for _, b := range []int{a, a + 1, 1, 2, 6} {
					if rule.numbers {
						hold(op, a, b, first)
					}
				}
			}
			for second := range ahead.Nodes {
				if rule.takes != 1 {
					hold(op, 0, 0, first, second)
				}
			}
		}
	}
}

// TestP901Order: of several things that are wrong with a node, the first of the chapter's eight.
func TestP901Order(t *testing.T) {
	ahead := tapeOf(input(0, 1, 2, 64), param(0, 2, 1, 32))
	for _, x := range []struct {
		n    api.Node
		want api.Errno
		at   int
	}{
		// The operation ahead of all but the length.
		{api.Node{Op: 4, A: 1, B: 1, In: []int{9}, Rows: -1, Cols: 1, Width: 1, Bits: []int{1}}, api.ErrOp, 0},
		// Fields that are not used, and how many nodes, ahead of which.
		{takes(api.OpAdd, 9), api.ErrArg, 0},
		{takes(api.OpNeg, 9, 9), api.ErrArg, 0},
		{numbers(api.OpNeg, 1, 0, 9), api.ErrArg, 0},
		{numbers(api.OpGlueCols, 0, 1, -1, 9), api.ErrArg, 0},
		{api.Node{Op: api.OpAdd, In: []int{0, 9}, Width: 64}, api.ErrArg, 0},
		{api.Node{Op: api.OpInput, In: []int{9}, A: 0, Rows: 1, Cols: 2, Width: 64}, api.ErrArg, 0},
		// Ahead of shapes, numbers, elements, and what does not fit.
		{api.Node{Op: api.OpInput, A: -1, B: 1, Rows: -1}, api.ErrArg, 0},
		{api.Node{Op: api.OpParam, A: 64, Rows: 1, Cols: 1, Width: 64, Bits: []int{0}}, api.ErrArg, 0},
		{api.Node{Op: api.OpConst, A: 1, Rows: 1, Cols: 1, Width: 16, Bits: []int{api.NaN}}, api.ErrArg, 0},
		{api.Node{Op: api.OpProduct, In: []int{1, 1}, B: 1}, api.ErrArg, 0},
		// Which nodes, ahead of what does not fit.
		{takes(api.OpAdd, 1, 2), api.ErrNode, 1},
		{takes(api.OpAdd, -1, 2), api.ErrNode, 0},
		{takes(api.OpGlueRows, 0, 1, 2), api.ErrNode, 2},
		{numbers(api.OpForm, 0, 0, 2), api.ErrNode, 0},
		{numbers(api.OpWindow, 0, 0, 2), api.ErrNode, 0},
		// Shapes, width first, ahead of numbers and elements.
		{input(-1, 0, 0, 0), api.ErrWidth, 0},
		{input(0, 0, 4097, 64), api.ErrShape, 0},
		{input(8, 4097, 1, 64), api.ErrLong, 0},
		{param(0, 0, 1, 33), api.ErrWidth, 0},
		{param(64, 4097, 0, 32), api.ErrShape, 0},
		{param(-1, 1<<32, 1<<32, 32), api.ErrLong, 0},
		{constant(0, 0, 16, -1), api.ErrWidth, 0},
		{constant(0, 4097, 32, -1), api.ErrShape, 0},
		{constant(4097, 1, 32, -1), api.ErrLong, 0},
		{constant(4097, 1, 64, api.NaN), api.ErrLong, 0},
		// How many elements, ahead of which; bits of no float ahead of those that are not finite.
		{constant(1, 2, 32, -1), api.ErrShape, 0},
		{constant(1, 2, 64, api.NaN), api.ErrShape, 0},
		{constant(1, 2, 32, api.NaN32, -1), api.ErrBits, 0},
		{constant(1, 3, 64, 0, api.Inf, api.NaN), api.ErrInf, 1},
		{constant(1, 3, 64, 0, api.NaN, api.Inf), api.ErrNaN, 1},
		// What kernel.Shape says, in its order.
		{takes(api.OpProduct, 0, 1), api.ErrWidth, 0},
		{takes(api.OpProduct, 0, 0), api.ErrShape, 0},
		{takes(api.OpWide, 0), api.ErrWidth, 0},
		{takes(api.OpNarrow, 1), api.ErrWidth, 0},
		{numbers(api.OpWindow, 0, 1, 1), api.ErrShape, 0},
		{numbers(api.OpWindow, 0, 1, 0), api.ErrArg, 0},
		{numbers(api.OpCutCols, 1, 1, 0), api.ErrIndex, 0},
		{numbers(api.OpForm, 0, 2, 0), api.ErrShape, 0},
	} {
		faulty(t, ahead, x.n, x.want, x.at)
	}
}
