package bound_test

import (
	"math/rand"
	"testing"

	"pupil/api"
	"pupil/forward"
	"pupil/reverse"
	"pupil/tape"
)

// wholeOps are the operations of which whole numbers make whole numbers.
var wholeOps = []int{api.OpAdd, api.OpSub, api.OpMul, api.OpNeg, api.OpRelu, api.OpAbs, api.OpProduct, api.OpTurn, api.OpForm, api.OpCutCols, api.OpCutRows, api.OpGlueCols, api.OpGlueRows, api.OpWindow, api.OpSum, api.OpSumRows, api.OpSumCols, api.OpGreatest}

// grownWhole makes a right tape of these operations alone, of one width.
func grownWhole(r *rand.Rand, count, width int) api.Tape {
	made := tapeOf(input(0, 1+r.Intn(3), 1+r.Intn(3), width), param(0, 1+r.Intn(3), 1+r.Intn(3), width), input(1, 1, 1+r.Intn(4), width))
	for len(made.Nodes) < count {
		n := takes(wholeOps[r.Intn(len(wholeOps))])
		for range 1 + r.Intn(2) {
			n.In = append(n.In, r.Intn(len(made.Nodes)))
		}
		if n.Op >= api.OpForm && n.Op <= api.OpWindow && n.Op != api.OpGlueCols && n.Op != api.OpGlueRows {
			n.A, n.B = r.Intn(4), r.Intn(4)
		}
		if _, _, e := tape.Put(made, n); e == api.OK {
			made.Nodes = append(made.Nodes, n)
		}
	}
	return made
}

// wholes tells a matrix of small whole numbers.
func wholes(r *rand.Rand, rows, cols, width int) api.Matrix {
	m := mat(rows, cols, width)
	for range rows * cols {
		m.Bits = append(m.Bits, mat(1, 1, width, float64(r.Intn(9)-4)).Bits[0])
	}
	return m
}

// tooGreat tells whether a number of some matrices is beyond those of which the width has all.
func tooGreat(l []api.Matrix, limit float64) bool {
	for _, m := range l {
		for _, b := range m.Bits {
			if f := float(b, m.Width); f > limit || f < -limit {
				return true
			}
		}
	}
	return false
}

// wantPoints wants the points of what one way told.
func wantPoints(t *testing.T, what string, spans [][]api.Span, told []api.Matrix) {
	t.Helper()
	for node, m := range told {
		for i, b := range m.Bits {
			f := float(b, m.Width)
			if p := pointsOf(m.Width, f)[0]; spans[node][i] != p {
				t.Fatalf("%s, node %d, place %d: %x, want the point %v", what, node, i, spans[node][i], f)
			}
		}
	}
}

// dotOf tells the sum of the products of whole numbers.
func dotOf(a, b api.Matrix) int {
	sum := 0
	for i := range a.Bits {
		sum += int(float(a.Bits[i], a.Width)) * int(float(b.Bits[i], b.Width))
	}
	return sum
}

// TestP1305Whole: of whole-number tapes all spans are points, and both ways tell one number, that of whole-number arithmetic.
func TestP1305Whole(t *testing.T) {
	done := 0
	for n := range int64(300) {
		r := rand.New(rand.NewSource(n))
		width, limit := 32, 0x1p24
		if r.Intn(2) == 0 {
			width, limit = 64, 0x1p53
		}
		made := grownWhole(r, 12, width)
		leaf := func(node int) api.Matrix { return wholes(r, made.Nodes[node].Rows, made.Nodes[node].Cols, width) }
		values := valuesOf(t, made, list(leaf(0), leaf(2)), list(leaf(1)))
		x := told{tape: made, values: values, inputs: list(leaf(0), leaf(2)), params: list(leaf(1)), node: len(values) - 1 - r.Intn(4)}
		x.seed = wholes(r, values[x.node].Rows, values[x.node].Cols, width)
		tangents, _ := forward.Run(made, values, x.inputs, x.params)
		adjoints, _ := reverse.Run(made, values, x.node, x.seed)
		if tooGreat(values, limit/64) || tooGreat(tangents, limit/64) || tooGreat(adjoints, limit/64) {
			continue
		}
		done++
		spans, _ := x.forward()
		wantPoints(t, "ahead", spans, tangents)
		spans, _ = x.reverse()
		wantPoints(t, "back", spans, adjoints)
		want := dotOf(x.seed, tangents[x.node])
		if sum := dotOf(x.inputs[0], adjoints[0]) + dotOf(x.params[0], adjoints[1]) + dotOf(x.inputs[1], adjoints[2]); sum != want {
			t.Fatalf("%d ahead, %d back", want, sum)
		}
		if want > int(limit) || want < -int(limit) {
			continue
		}
		p := pointsOf(width, float64(want))[0]
		if got, f := x.tell(); f != (api.Fault{}) || got != (api.Told{Forward: p.Lo, Reverse: p.Lo, ForwardSpan: p, ReverseSpan: p}) {
			t.Fatalf("Tell: %x %v, want %d", got, f, want)
		}
	}
	if done < 120 {
		t.Errorf("%d tapes are held", done)
	}
}
