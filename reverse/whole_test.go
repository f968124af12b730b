package reverse_test

import (
	"math/rand"
	"testing"

	"pupil/api"
	"pupil/forward"
	"pupil/kernel"
	"pupil/reverse"
	"pupil/tape"
)

// wholeOps are the operations of which whole numbers make whole numbers.
var wholeOps = []int{api.OpAdd, api.OpSub, api.OpMul, api.OpNeg, api.OpRelu, api.OpAbs, api.OpProduct, api.OpTurn, api.OpForm, api.OpCutCols, api.OpCutRows, api.OpGlueCols, api.OpGlueRows, api.OpWindow, api.OpSum, api.OpSumRows, api.OpSumCols, api.OpGreatest}

// grownWhole makes a right tape of these operations alone, of one width.
func grownWhole(r *rand.Rand, count, width int) api.Tape {
	made := tapeOf(input(0, 1+r.Intn(3), 1+r.Intn(3), width), param(0, 1+r.Intn(3), 1+r.Intn(3), width), input(1, 1, 1+r.Intn(4), width))
	for len(made.Nodes) < count {
		n := takes(wholeOps[r.Intn(len(wholeOps))])
		for range 1 + r.Intn(2) {
			n.In = append(n.In, r.Intn(len(made.Nodes)))
		}
		if n.Op >= api.OpForm && n.Op <= api.OpWindow && n.Op != api.OpGlueCols && n.Op != api.OpGlueRows {
			n.A, n.B = r.Intn(4), r.Intn(4)
		}
		if _, _, e := tape.Put(made, n); e == api.OK {
			made.Nodes = append(made.Nodes, n)
		}
	}
	return made
}

// wholes tells a matrix of small whole numbers.
func wholes(r *rand.Rand, rows, cols, width int) api.Matrix {
	m := mat(rows, cols, width)
	for range rows * cols {
		m.Bits = append(m.Bits, mat(1, 1, width, float64(r.Intn(9)-4)).Bits[0])
	}
	return m
}

// pair is a whole number and its tangent: both go together through a tape, without any rounding.
type pair struct{ x, dx int }

// grid is a matrix of pairs.
type grid struct {
	rows, cols int
	list       []pair
}

func (g grid) at(r, c int) pair { return g.list[min(r, g.rows-1)*g.cols+min(c, g.cols-1)] }

// made makes a grid, pair by pair.
func made(rows, cols int, f func(r, c int) pair) grid {
	g := grid{rows: rows, cols: cols}
	for i := range rows * cols {
		g.list = append(g.list, f(i/cols, i%cols))
	}
	return g
}

// summed adds the pairs of a grid, from and to below some rows and columns.
func (g grid) summed(r, toRow, c, toCol int) pair {
	var s pair
	for i := r; i < toRow; i++ {
		for k := c; k < toCol; k++ {
			s.x, s.dx = s.x+g.at(i, k).x, s.dx+g.at(i, k).dx
		}
	}
	return s
}

// times tells a pair times a number.
func (p pair) times(n int) pair { return pair{n * p.x, n * p.dx} }

func signOf(n int) int { return min(1, max(-1, n)) }

// ofTwo tells what the operations on two elements make of pairs.
func ofTwo(op int, a, b pair) pair {
	switch op {
	case api.OpAdd:
		return pair{a.x + b.x, a.dx + b.dx}
	case api.OpSub:
		return pair{a.x - b.x, a.dx - b.dx}
	}
	return pair{a.x * b.x, a.dx*b.x + a.x*b.dx}
}

// pairsOf reckons a node in whole numbers.
func pairsOf(n api.Node, in []grid, rows, cols int) grid {
	g := in[0]
	return made(rows, cols, func(r, c int) pair {
		switch n.Op {
		case api.OpAdd, api.OpSub, api.OpMul:
			return ofTwo(n.Op, g.at(r, c), in[1].at(r, c))
		case api.OpNeg:
			return g.at(r, c).times(-1)
		case api.OpRelu:
			return g.at(r, c).times(max(0, signOf(g.at(r, c).x)))
		case api.OpAbs:
			return g.at(r, c).times(signOf(g.at(r, c).x))
		case api.OpProduct:
			return made(1, g.cols, func(_, k int) pair { return ofTwo(api.OpMul, g.at(r, k), in[1].at(k, c)) }).summed(0, 1, 0, g.cols)
		case api.OpTurn:
			return g.at(c, r)
		case api.OpForm:
			return g.list[r*cols+c]
		case api.OpCutCols:
			return g.at(r, n.A+c)
		case api.OpCutRows:
			return g.at(n.A+r, c)
		case api.OpWindow:
			return g.at(0, r*n.B+c)
		}
		return gatheredPair(n.Op, in, r, c)
	})
}

// gatheredPair tells the pair of a sum, a glue or the greatest of a row.
func gatheredPair(op int, in []grid, r, c int) pair {
	g := in[0]
	switch op {
	case api.OpGlueCols:
		for c >= in[0].cols {
			c -= in[0].cols
			in = in[1:]
		}
		return in[0].at(r, c)
	case api.OpGlueRows:
		for r >= in[0].rows {
			r -= in[0].rows
			in = in[1:]
		}
		return in[0].at(r, c)
	case api.OpSum:
		return g.summed(0, g.rows, 0, g.cols)
	case api.OpSumRows:
		return g.summed(r, r+1, 0, g.cols)
	case api.OpSumCols:
		return g.summed(0, g.rows, c, c+1)
	}
	best := g.at(r, 0)
	for k := range g.cols {
		if g.at(r, k).x > best.x {
			best = g.at(r, k)
		}
	}
	return best
}

// both lays a matrix and its direction side by side.
func both(m, d api.Matrix) grid {
	return made(m.Rows, m.Cols, func(r, c int) pair {
		return pair{int(float(m.Bits[r*m.Cols+c], m.Width)), int(float(d.Bits[r*m.Cols+c], m.Width))}
	})
}

// unit tells noughts of the shape of a matrix, and a 1 at a place; none, if the place is -1.
func unit(m api.Matrix, at int) api.Matrix {
	m = zeros(m)
	if at >= 0 {
		m.Bits[at] = mat(1, 1, m.Width, 1).Bits[0]
	}
	return m
}

// gridsOf reckons all nodes of a whole-number tape with three leaves, along a direction of these.
func gridsOf(made api.Tape, values, along []api.Matrix) []grid {
	var grids []grid
	for node, n := range made.Nodes {
		if len(n.In) == 0 {
			grids = append(grids, both(values[node], along[node]))
			continue
		}
		var taken []grid
		for _, k := range n.In {
			taken = append(taken, grids[k])
		}
		grids = append(grids, pairsOf(n, taken, values[node].Rows, values[node].Cols))
	}
	return grids
}

// dotOf tells the product of a seed with the tangents of a grid.
func dotOf(seed api.Matrix, g grid) int {
	sum := 0
	for i, p := range g.list {
		sum += int(float(seed.Bits[i], seed.Width)) * p.dx
	}
	return sum
}

// tooGreat tells whether a number of some matrices is beyond those of which the width has all.
func tooGreat(l []api.Matrix, limit float64) bool {
	for _, m := range l {
		for _, b := range m.Bits {
			if f := float(b, m.Width); f > limit || f < -limit {
				return true
			}
		}
	}
	return false
}

// wantLeaf holds the adjoints of a leaf against the whole-number derivative along each of its elements.
func wantLeaf(t *testing.T, made api.Tape, values, adjoints []api.Matrix, leaf, node int, seed api.Matrix) {
	t.Helper()
	for at, b := range adjoints[leaf].Bits {
		along := list(zeros(values[0]), zeros(values[1]), zeros(values[2]))
		along[leaf] = unit(values[leaf], at)
		want := dotOf(seed, gridsOf(made, values, along)[node])
		if b != mat(1, 1, seed.Width, float64(want)).Bits[0] {
			t.Fatalf("node %d, place %d: %x, want %d", leaf, at, b, want)
		}
	}
}

// TestP1203Whole: of whole-number tapes the adjoints are whole-number arithmetic's, and both ways tell one number.
func TestP1203Whole(t *testing.T) {
	done := 0
	for n := range int64(500) {
		r := rand.New(rand.NewSource(n))
		width, limit := 32, 0x1p24
		if r.Intn(2) == 0 {
			width, limit = 64, 0x1p53
		}
		made := grownWhole(r, 12, width)
		leaf := func(node int) api.Matrix { return wholes(r, made.Nodes[node].Rows, made.Nodes[node].Cols, width) }
		values := valuesOf(t, made, list(leaf(0), leaf(2)), list(leaf(1)))
		along := list(leaf(0), leaf(1), leaf(2))
		tangents, f := forward.Run(made, values, list(along[0], along[2]), list(along[1]))
		if f != (api.Fault{}) {
			t.Fatalf("forward: %v", f)
		}
		node := len(values) - 1 - r.Intn(4)
		seed := wholes(r, values[node].Rows, values[node].Cols, width)
		adjoints, f := reverse.Run(made, values, node, seed)
		if f != (api.Fault{}) {
			t.Fatalf("whole numbers: %v", f)
		}
		if tooGreat(values, limit/64) || tooGreat(tangents, limit/64) || tooGreat(adjoints, limit/64) {
			continue
		}
		done++
		one, _ := kernel.Dot(seed, tangents[node])
		var sum float64
		for i := range 3 {
			wantLeaf(t, made, values, adjoints, i, node, seed)
			part, _ := kernel.Dot(along[i], adjoints[i])
			sum += float(part, width)
		}
		if float(one, width) != sum {
			t.Fatalf("forward tells %v, reverse %v", float(one, width), sum)
		}
	}
	if done < 200 {
		t.Errorf("%d tapes are held", done)
	}
}

// TestP1203Ends: the greatest whole numbers of which a width has all.
func TestP1203Ends(t *testing.T) {
	for width, limit := range map[int]float64{32: 0x1p24, 64: 0x1p53} {
		for _, c := range []struct {
			factors, seed []float64
			want          float64
		}{
			{row(1, 1), row(limit-1, 1), limit},
			{row(1, -1), row(-limit+3, 2), -limit + 1},
			{row(limit, limit, 1, -1), row(1, 1, 1, limit+2), limit - 1},
			{row(2048, 4096, 3), row(2048, 1024, -5), 2048*2048*2 - 15},
		} {
			made := brought(width, c.factors)
			values := valuesOf(t, made, list(mat(1, 1, width, 1)), nil)
			got, f := reverse.Run(made, values, len(values)-1, mat(1, len(c.seed), width, c.seed...))
			if f != (api.Fault{}) || !same(got[0], mat(1, 1, width, c.want)) {
				t.Errorf("width %d: %v times %v: %x %v, want %v", width, c.factors, c.seed, got, f, c.want)
			}
		}
	}
}
