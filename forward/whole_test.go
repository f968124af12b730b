package forward_test

import (
	"math"
	"math/rand"
	"testing"

	"pupil/api"
	"pupil/eval"
	"pupil/forward"
	"pupil/tape"
)

// TestP1102Noughts: along noughts there are noughts, wherever no OpSqrt of 0 is; there it stops.
func TestP1102Noughts(t *testing.T) {
	roots, others := 0, 0
	for seed := range int64(300) {
		r := rand.New(rand.NewSource(2000 + seed))
		made := grown(r, 25)
		inputs, params := fill(r, made)
		values, f := eval.Run(made, inputs, params)
		if f != (api.Fault{}) {
			continue
		}
		in, pa := copies(inputs), copies(params)
		for _, l := range [][]api.Matrix{in, pa} {
			for _, m := range l {
				for i := range m.Bits {
					m.Bits[i] = mat(1, 1, m.Width, []float64{0, neg0}[r.Intn(2)]).Bits[0]
				}
			}
		}
		root := rootOfNought(made, values)
		tangents, f := forward.Run(made, values, in, pa)
		if root != f {
			t.Fatalf("along noughts: %v, want %v", f, root)
		}
		if root != (api.Fault{}) {
			roots++
			continue
		}
		others++
		for node, m := range tangents {
			for _, b := range m.Bits {
				if float(b, m.Width) != 0 || made.Nodes[node].Op > api.OpConst && b != 0 {
					t.Fatalf("node %d along noughts: %x", node, m)
				}
			}
		}
	}
	if roots < 3 || others < 50 {
		t.Errorf("%d tapes with a root of 0, %d others", roots, others)
	}
}

// rootOfNought tells the fault of the first OpSqrt of 0, if there is one.
func rootOfNought(made api.Tape, values []api.Matrix) api.Fault {
	for node, n := range made.Nodes {
		for at, b := range values[node].Bits {
			if n.Op == api.OpSqrt && float(b, values[node].Width) == 0 {
				return api.Fault{Err: api.ErrNaN, Node: node, At: at}
			}
		}
	}
	return api.Fault{}
}

// wholeOps are the operations of which whole numbers make whole numbers.
var wholeOps = []int{api.OpAdd, api.OpSub, api.OpMul, api.OpNeg, api.OpRelu, api.OpAbs, api.OpProduct, api.OpTurn, api.OpForm, api.OpCutCols, api.OpCutRows, api.OpGlueCols, api.OpGlueRows, api.OpWindow, api.OpSum, api.OpSumRows, api.OpSumCols, api.OpGreatest}

// grownWhole makes a right tape of these operations alone, of one width.
func grownWhole(r *rand.Rand, count, width int) api.Tape {
	made := tapeOf(input(0, 1+r.Intn(3), 1+r.Intn(3), width), param(0, 1+r.Intn(3), 1+r.Intn(3), width), input(1, 1, 1+r.Intn(4), width))
	for len(made.Nodes) < count {
		n := takes(wholeOps[r.Intn(len(wholeOps))])
		for range 1 + r.Intn(2) {
			n.In = append(n.In, r.Intn(len(made.Nodes)))
		}
		if n.Op >= api.OpForm && n.Op <= api.OpWindow && n.Op != api.OpGlueCols && n.Op != api.OpGlueRows {
			n.A, n.B = r.Intn(4), r.Intn(4)
		}
		if _, _, e := tape.Put(made, n); e == api.OK {
			made.Nodes = append(made.Nodes, n)
		}
	}
	return made
}

// wholes tells a matrix of small whole numbers.
func wholes(r *rand.Rand, rows, cols, width int) api.Matrix {
	m := mat(rows, cols, width)
	for range rows * cols {
		m.Bits = append(m.Bits, mat(1, 1, width, float64(r.Intn(9)-4)).Bits[0])
	}
	return m
}

// pair is a whole number and its tangent: both go together through a tape, without any rounding.
type pair struct{ x, dx int }

// grid is a matrix of pairs.
type grid struct {
	rows, cols int
	list       []pair
}

func (g grid) at(r, c int) pair { return g.list[min(r, g.rows-1)*g.cols+min(c, g.cols-1)] }

// made makes a grid, pair by pair.
func made(rows, cols int, f func(r, c int) pair) grid {
	g := grid{rows: rows, cols: cols}
	for i := range rows * cols {
		g.list = append(g.list, f(i/cols, i%cols))
	}
	return g
}

// summed adds the pairs of a grid, from and to below some rows and columns.
func (g grid) summed(r, toRow, c, toCol int) pair {
	var s pair
	for i := r; i < toRow; i++ {
		for k := c; k < toCol; k++ {
			s.x, s.dx = s.x+g.at(i, k).x, s.dx+g.at(i, k).dx
		}
	}
	return s
}

// times tells a pair times a number.
func (p pair) times(n int) pair { return pair{n * p.x, n * p.dx} }

func signOf(n int) int { return min(1, max(-1, n)) }

// ofTwo tells what the operations on two elements make of pairs.
func ofTwo(op int, a, b pair) pair {
	switch op {
	case api.OpAdd:
		return pair{a.x + b.x, a.dx + b.dx}
	case api.OpSub:
		return pair{a.x - b.x, a.dx - b.dx}
	}
	return pair{a.x * b.x, a.dx*b.x + a.x*b.dx}
}

// pairsOf reckons a node in whole numbers.
func pairsOf(n api.Node, in []grid, rows, cols int) grid {
	g := in[0]
	return made(rows, cols, func(r, c int) pair {
		switch n.Op {
		case api.OpAdd, api.OpSub, api.OpMul:
			return ofTwo(n.Op, g.at(r, c), in[1].at(r, c))
		case api.OpNeg:
			return g.at(r, c).times(-1)
		case api.OpRelu:
			return g.at(r, c).times(max(0, signOf(g.at(r, c).x)))
		case api.OpAbs:
			return g.at(r, c).times(signOf(g.at(r, c).x))
		case api.OpProduct:
			return made(1, g.cols, func(_, k int) pair { return ofTwo(api.OpMul, g.at(r, k), in[1].at(k, c)) }).summed(0, 1, 0, g.cols)
		case api.OpTurn:
			return g.at(c, r)
		case api.OpForm:
			return g.list[r*cols+c]
		case api.OpCutCols:
			return g.at(r, n.A+c)
		case api.OpCutRows:
			return g.at(n.A+r, c)
		case api.OpWindow:
			return g.at(0, r*n.B+c)
		}
		return gatheredPair(n.Op, in, r, c)
	})
}

// gatheredPair tells the pair of a sum, a glue or the greatest of a row.
func gatheredPair(op int, in []grid, r, c int) pair {
	g := in[0]
	switch op {
	case api.OpGlueCols:
		for c >= in[0].cols {
			c -= in[0].cols
			in = in[1:]
		}
		return in[0].at(r, c)
	case api.OpGlueRows:
		for r >= in[0].rows {
			r -= in[0].rows
			in = in[1:]
		}
		return in[0].at(r, c)
	case api.OpSum:
		return g.summed(0, g.rows, 0, g.cols)
	case api.OpSumRows:
		return g.summed(r, r+1, 0, g.cols)
	case api.OpSumCols:
		return g.summed(0, g.rows, c, c+1)
	}
	best := g.at(r, 0)
	for k := range g.cols {
		if g.at(r, k).x > best.x {
			best = g.at(r, k)
		}
	}
	return best
}

// TestP1103Whole: whole-number tapes tell the exact tangents, as whole numbers make them, while the width has all of them.
func TestP1103Whole(t *testing.T) {
	done := 0
	for seed := range int64(600) {
		r := rand.New(rand.NewSource(seed))
		width := widths[r.Intn(2)]
		tp := grownWhole(r, 12, width)
		in, pa := list(wholes(r, tp.Nodes[0].Rows, tp.Nodes[0].Cols, width), wholes(r, 1, tp.Nodes[2].Cols, width)), list(wholes(r, tp.Nodes[1].Rows, tp.Nodes[1].Cols, width))
		din, dpa := list(wholes(r, tp.Nodes[0].Rows, tp.Nodes[0].Cols, width), wholes(r, 1, tp.Nodes[2].Cols, width)), list(wholes(r, tp.Nodes[1].Rows, tp.Nodes[1].Cols, width))
		values := valuesOf(t, tp, in, pa)
		tangents, f := forward.Run(tp, values, din, dpa)
		if f != (api.Fault{}) {
			t.Fatalf("whole numbers: %v", f)
		}
		limit := 1 << 24
		if width == 64 {
			limit = 1 << 53
		}
		grids := []grid{both(in[0], din[0]), both(pa[0], dpa[0]), both(in[1], din[1])}
		for node := 3; node < len(tp.Nodes); node++ {
			var taken []grid
			for _, k := range tp.Nodes[node].In {
				taken = append(taken, grids[k])
			}
			g := pairsOf(tp.Nodes[node], taken, values[node].Rows, values[node].Cols)
			if !within(g, limit) {
				break
			}
			grids = append(grids, g)
			done++
			for i, p := range g.list {
				if b := mat(1, 1, width, float64(p.dx)).Bits[0]; tangents[node].Bits[i] != b || float(values[node].Bits[i], width) != float64(p.x) {
					t.Fatalf("seed %d, node %d, place %d: %x, want %d", seed, node, i, tangents[node].Bits[i], p.dx)
				}
			}
		}
	}
	if done < 3000 {
		t.Errorf("%d nodes are held", done)
	}
}

// both lays a matrix and its direction side by side.
func both(m, d api.Matrix) grid {
	return made(m.Rows, m.Cols, func(r, c int) pair {
		return pair{int(float(m.Bits[r*m.Cols+c], m.Width)), int(float(d.Bits[r*m.Cols+c], m.Width))}
	})
}

// within tells whether all numbers of a grid are ones that the width has.
func within(g grid, limit int) bool {
	for _, p := range g.list {
		if max(p.x, -p.x, p.dx, -p.dx) > limit {
			return false
		}
	}
	return true
}

// TestP1103Ends: the greatest whole numbers of which a width has all.
func TestP1103Ends(t *testing.T) {
	for width, limit := range map[int]float64{32: 0x1p24, 64: 0x1p53} {
		wantHand(t, width, hand{api.OpAdd, one(0, 0), one(limit-1, 1), []float64{limit}})
		wantHand(t, width, hand{api.OpSub, one(0, 0), one(-limit+3, 2), []float64{-limit + 1}})
		root := math.Sqrt(limit / 2)
		if width == 32 {
			root = 2048
		}
		wantHand(t, width, hand{api.OpMul, one(root, 3), one(5, 7), []float64{15 + 7*root}})
		wantHand(t, width, hand{api.OpSum, [][]float64{{0, 0, 0, 0}}, [][]float64{{limit, limit, 1, -limit - 2}}, []float64{limit - 1}})
	}
}
