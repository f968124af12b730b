package part_test

import (
	"math"
	"math/rand"
	"slices"
	"testing"

	"pupil/acc"
	"pupil/api"
	"pupil/part"
)

// The ends of the ints.
const (
	lowest  = math.MinInt
	highest = math.MaxInt
)

var (
	widths   = []int{32, 64}
	noWidths = []int{0, 1, 16, 31, 33, 63, 65, 96, 128, -32, -64, 32 + 1<<32, lowest, highest}
	ends     = []int{lowest, lowest + 1, -1 << 32, -1, 1 << 32, 1 << 62, highest - 1, highest}
)

// pattern tells a number's bits of a width.
func pattern(f float64, width int) int {
	if width == 32 {
		return int(math.Float32bits(float32(f)))
	}
	return int(math.Float64bits(f))
}

// value tells what bits say.
func value(b, width int) float64 {
	if width == 32 {
		return float64(math.Float32frombits(uint32(b)))
	}
	return math.Float64frombits(uint64(b))
}

func minusOf(width int) int { return pattern(math.Copysign(0, -1), width) }

func infinityOf(width int) int { return pattern(math.Inf(1), width) }

func greatestOf(width int) int { return infinityOf(width) - 1 }

func noneOf(width int) int {
	if width == 32 {
		return api.NaN32
	}
	return api.NaN
}

// negative turns the sign.
func negative(b, width int) int { return b ^ minusOf(width) }

// otherOf tells the width that it is not.
func otherOf(width int) int { return 96 - width }

// refusal tells what is said of an element; OK: it is finite.
func refusal(b, width int) api.Errno {
	switch f := value(b, width); {
	case math.IsNaN(f):
		return api.ErrNaN
	case math.IsInf(f, 0):
		return api.ErrInf
	}
	return api.OK
}

// notFinite are patterns that are none.
func notFinite(width int) []int {
	inf := infinityOf(width)
	return []int{inf, negative(inf, width), inf + 1, negative(inf+1, width), noneOf(width)}
}

// matrix makes one of bits, vals one of numbers.
func matrix(rows, cols, width int, bits ...int) api.Matrix {
	return api.Matrix{Rows: rows, Cols: cols, Width: width, Bits: bits}
}

func vals(rows, cols, width int, numbers ...float64) api.Matrix {
	m := matrix(rows, cols, width)
	for _, f := range numbers {
		m.Bits = append(m.Bits, pattern(f, width))
	}
	return m
}

// some makes one of random numbers about 0.
func some(r *rand.Rand, rows, cols, width int) api.Matrix {
	m := matrix(rows, cols, width)
	for range rows * cols {
		m.Bits = append(m.Bits, pattern(r.NormFloat64(), width))
	}
	return m
}

// copied makes the same, in memory of its own.
func copied(m api.Matrix) api.Matrix {
	m.Bits = slices.Clone(m.Bits)
	return m
}

// with makes the same, with another element at a place.
func with(m api.Matrix, at, b int) api.Matrix {
	m = copied(m)
	m.Bits[at] = b
	return m
}

func same(a, b api.Matrix) bool {
	return a.Rows == b.Rows && a.Cols == b.Cols && a.Width == b.Width && slices.Equal(a.Bits, b.Bits)
}

func sameAll(a, b []api.Matrix) bool { return slices.EqualFunc(a, b, same) }

// misshapen is a matrix that is not in form, and why.
type misshapen struct {
	m api.Matrix
	e api.Errno
}

// misshapes are all ways to be none.
func misshapes() []misshapen {
	l := []misshapen{
		{api.Matrix{}, api.ErrWidth}, {vals(1, 1, 16, 1), api.ErrWidth}, {matrix(0, 0, 33), api.ErrWidth},
		{matrix(0, 1, 64), api.ErrShape}, {matrix(1, 0, 32), api.ErrShape}, {matrix(-1, -1, 64, 1), api.ErrShape}, {matrix(lowest, 1, 64), api.ErrShape},
		{matrix(1, 4097, 64, make([]int, 4097)...), api.ErrLong}, {matrix(65, 64, 32), api.ErrLong}, {matrix(highest, highest, 64), api.ErrLong}, {matrix(1<<32, 1<<32, 64), api.ErrLong},
		{matrix(1, 2, 64, 1), api.ErrShape}, {matrix(1, 1, 64, 1, 2), api.ErrShape}, {matrix(2, 2, 32), api.ErrShape},
		{matrix(1, 1, 32, -1), api.ErrBits}, {matrix(1, 1, 32, 1<<32), api.ErrBits}, {matrix(1, 2, 32, infinityOf(32), lowest), api.ErrBits},
	}
	return l
}

// input, param, constant, takes and numbers make nodes.
func input(a, rows, cols, width int) api.Node {
	return api.Node{Op: api.OpInput, A: a, Rows: rows, Cols: cols, Width: width}
}

func param(a, rows, cols, width int) api.Node {
	return api.Node{Op: api.OpParam, A: a, Rows: rows, Cols: cols, Width: width}
}

func constant(m api.Matrix) api.Node {
	return api.Node{Op: api.OpConst, Rows: m.Rows, Cols: m.Cols, Width: m.Width, Bits: m.Bits}
}

func takes(op int, in ...int) api.Node { return api.Node{Op: op, In: in} }

func numbers(op, a, b int, in ...int) api.Node { return api.Node{Op: op, A: a, B: b, In: in} }

// planOf makes a plan of nodes; its Inits are the parameters' own.
func planOf(out, loss int, nodes ...api.Node) api.Plan {
	p := api.Plan{Tape: api.Tape{Nodes: nodes}, Out: out, Loss: loss}
	for _, n := range nodesOf(p.Tape, api.OpParam) {
		p.Inits = append(p.Inits, api.Init{Rows: n.Rows, Cols: n.Cols, Width: n.Width})
	}
	return p
}

// example is the chapter's plan, with its set.
func example() (api.Plan, api.Set) {
	p := planOf(3, 5, input(0, 1, 1, 64), input(1, 1, 1, 64), param(0, 1, 1, 64), takes(api.OpMul, 0, 2), takes(api.OpSub, 3, 1), takes(api.OpMul, 4, 4))
	return p, api.Set{X: vals(3, 1, 64, 1, 2, 3), Y: vals(3, 1, 64, 2, 4, 6)}
}

// mixed is a plan whose inputs and parameters stand in another order than their numbers, of both widths: the set and the net are of one, the loss, and the parameter by which it is multiplied, of the other one. No loss hangs on its last parameter; nodes stand behind the loss.
func mixed(width int) api.Plan {
	v, turn := otherOf(width), api.OpWide
	if width == 64 {
		turn = api.OpNarrow
	}
	return planOf(6, 12,
		param(1, 1, 2, width), input(1, 1, 2, width), param(0, 3, 2, width), input(0, 1, 3, width),
		takes(api.OpProduct, 3, 2), takes(api.OpAdd, 4, 0), takes(api.OpTanh, 5), takes(api.OpSub, 6, 1), takes(api.OpMul, 7, 7), takes(api.OpSum, 8),
		takes(turn, 9), param(2, 1, 1, v), takes(api.OpMul, 10, 11), param(3, 2, 2, width), takes(api.OpNeg, 13))
}

// mixedParams makes the parameters of that, mixedSet a set for it.
func mixedParams(r *rand.Rand, width int) []api.Matrix {
	return []api.Matrix{some(r, 3, 2, width), some(r, 1, 2, width), some(r, 1, 1, otherOf(width)), some(r, 2, 2, width)}
}

func mixedSet(r *rand.Rand, rows, width int) api.Set {
	return api.Set{X: some(r, rows, 3, width), Y: some(r, rows, 2, width)}
}

// linear is a plan whose loss is x times one parameter and y times another: with 1 and 0 for these a row's loss is its x, and the gradients are its x and its y.
func linear(width int) (api.Plan, []api.Matrix) {
	p := planOf(4, 6, param(1, 1, 1, width), input(0, 1, 1, width), input(1, 1, 1, width), param(0, 1, 1, width), takes(api.OpMul, 1, 3), takes(api.OpMul, 2, 0), takes(api.OpAdd, 4, 5))
	return p, []api.Matrix{vals(1, 1, width, 1), vals(1, 1, width, 0)}
}

// upTo tells 0 to n - 1.
func upTo(n int) []int {
	var l []int
	for i := range n {
		l = append(l, i)
	}
	return l
}

func samePart(a, b api.Part) bool {
	return slices.Equal(a.Rows, b.Rows) && acc.Same(a.Loss, b.Loss) &&
		slices.EqualFunc(a.Grads, b.Grads, func(x, y []api.Acc) bool { return slices.EqualFunc(x, y, acc.Same) })
}

// zeroPart tells whether a part is what stands beside an error.
func zeroPart(x api.Part) bool {
	return len(x.Rows) == 0 && len(x.Grads) == 0 && acc.Same(x.Loss, api.Acc{})
}

func wantFits(t *testing.T, what string, p api.Plan, s api.Set, e api.Errno) {
	t.Helper()
	if f := part.Fits(p, s); f != e {
		t.Errorf("%s: Fits: %v, want %v", what, f, e)
	}
}

// wantOf wants Of to tell what the chapter says, and hands that on.
func wantOf(t *testing.T, what string, p api.Plan, params []api.Matrix, s api.Set, rows []int) (api.Part, api.Where, api.Errno) {
	t.Helper()
	want, where, e := partOf(p, params, s, rows)
	got, at, f := part.Of(p, params, s, rows)
	if !samePart(got, want) || at != where || f != e {
		t.Errorf("%s: Of: %v, %v, %v, want %v, %v, %v", what, got, at, f, want, where, e)
	}
	return want, where, e
}

// wantNone wants Of to refuse ahead of its rows.
func wantNone(t *testing.T, what string, p api.Plan, params []api.Matrix, s api.Set, rows []int, e api.Errno) {
	t.Helper()
	if got, at, f := part.Of(p, params, s, rows); !zeroPart(got) || at != (api.Where{}) || f != e {
		t.Errorf("%s: Of: %v, %v, %v, want %v", what, got, at, f, e)
	}
}

// wantStop wants Of to stop somewhere.
func wantStop(t *testing.T, what string, p api.Plan, params []api.Matrix, s api.Set, rows []int, where api.Where, e api.Errno) {
	t.Helper()
	if got, at, f := part.Of(p, params, s, rows); !zeroPart(got) || at != where || f != e {
		t.Errorf("%s: Of: %v, %v, %v, want %v, %v", what, got, at, f, where, e)
	}
}

// wantJoin wants Join to tell what the chapter says, whichever part comes first, and hands that on.
func wantJoin(t *testing.T, what string, a, b api.Part) (api.Part, api.Errno) {
	t.Helper()
	want, e := joinOf(a, b)
	for _, l := range [][2]api.Part{{a, b}, {b, a}} {
		if got, f := part.Join(l[0], l[1]); !samePart(got, want) || f != e {
			t.Errorf("%s: Join: %v, %v, want %v, %v", what, got, f, want, e)
		}
	}
	return want, e
}

// wantNoJoin wants it to be refused.
func wantNoJoin(t *testing.T, what string, a, b api.Part, e api.Errno) {
	t.Helper()
	for _, l := range [][2]api.Part{{a, b}, {b, a}} {
		if got, f := part.Join(l[0], l[1]); !zeroPart(got) || f != e {
			t.Errorf("%s: Join: %v, %v, want %v", what, got, f, e)
		}
	}
}

// wantClose wants Close to tell what the chapter says, and hands that on.
func wantClose(t *testing.T, what string, p api.Plan, x api.Part) (int, []api.Matrix, api.Where, api.Errno) {
	t.Helper()
	loss, grads, where, e := closeOf(p, x)
	got, l, at, f := part.Close(p, x)
	if got != loss || !sameAll(l, grads) || at != where || f != e {
		t.Errorf("%s: Close: %x, %x, %v, %v, want %x, %x, %v, %v", what, got, l, at, f, loss, grads, where, e)
	}
	return loss, grads, where, e
}

// wantOpen wants it to be refused.
func wantOpen(t *testing.T, what string, p api.Plan, x api.Part, where api.Where, e api.Errno) {
	t.Helper()
	if loss, l, at, f := part.Close(p, x); loss != 0 || len(l) > 0 || at != where || f != e {
		t.Errorf("%s: Close: %x, %x, %v, %v, want %v, %v", what, loss, l, at, f, where, e)
	}
}
