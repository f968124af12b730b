package reverse_test

import (
	"math"
	"math/big"
	"slices"

	"pupil/api"
	"pupil/bits"
	"pupil/elem"
	"pupil/eval"
	"pupil/kernel"
	"pupil/tensor"
)

// The chapter reckoned once more, plainly: of each element of a node a list of terms, each a fraction and an element that is taken, by one divisor: what the node's adjoint brings to that one is their product. Where elements only go elsewhere, it is seen from a matrix of their places where each one goes.

// float tells the value of finite bits.
func float(b, width int) float64 {
	if width == 32 {
		return float64(math.Float32frombits(uint32(b)))
	}
	return math.Float64frombits(uint64(b))
}

// ratio tells the value of finite bits as a fraction.
func ratio(b, width int) *big.Rat { return new(big.Rat).SetFloat64(float(b, width)) }

func plus(a, b *big.Rat) *big.Rat  { return new(big.Rat).Add(a, b) }
func minus(a, b *big.Rat) *big.Rat { return new(big.Rat).Sub(a, b) }
func times(a, b *big.Rat) *big.Rat { return new(big.Rat).Mul(a, b) }
func whole(n int) *big.Rat         { return big.NewRat(int64(n), 1) }

// rounded tells the bits of the float that is nearest to a fraction; of 0 never -0.
func rounded(x *big.Rat, width int) int {
	if width == 32 {
		f, _ := x.Float32()
		return int(math.Float32bits(f + 0))
	}
	f, _ := x.Float64()
	return int(math.Float64bits(f + 0))
}

// term is a factor, and the element that is brought its product with the adjoint: which of the matrices that are taken, and where in it.
type term struct {
	factor   *big.Rat
	which, k int
}

// at tells where the element stands that comes to a row and a column of what a matrix is stretched to.
func at(m api.Matrix, r, c int) int {
	if m.Rows == 1 {
		r = 0
	}
	if m.Cols == 1 {
		c = 0
	}
	return r*m.Cols + c
}

// placesOf tells, of matrices, others whose elements are 1, 2, .. through all of them: the place of an element, and 1.
func placesOf(in []api.Matrix) []api.Matrix {
	l, next := copies(in), 0
	for i := range l {
		for k := range l[i].Bits {
			next++
			l[i].Bits[k] = mat(1, 1, l[i].Width, float64(next)).Bits[0]
		}
	}
	return l
}

// movedTerms tells of an operation that moves elements which one comes to each place.
func movedTerms(n api.Node, in []api.Matrix) [][]term {
	m, _ := kernel.Do(n.Op, n.A, n.B, placesOf(in))
	var l [][]term
	for _, b := range m.Bits {
		which, k := 0, int(float(b, m.Width))-1
		for k >= len(in[which].Bits) {
			k -= len(in[which].Bits)
			which++
		}
		l = append(l, []term{{whole(1), which, k}})
	}
	return l
}

// pairTerms tells the terms of the operations on two elements, and the divisor.
func pairTerms(op int, x, u, y *big.Rat, i, k int) ([]term, *big.Rat) {
	switch op {
	case api.OpAdd:
		return []term{{whole(1), 0, i}, {whole(1), 1, k}}, whole(1)
	case api.OpSub:
		return []term{{whole(1), 0, i}, {whole(-1), 1, k}}, whole(1)
	case api.OpMul:
		return []term{{u, 0, i}, {x, 1, k}}, whole(1)
	}
	return []term{{whole(1), 0, i}, {times(whole(-1), y), 1, k}}, u
}

// eachFactor tells the factor of the operations on one element, and the divisor; b is the element's bits.
func eachFactor(op, b, width int, x, y *big.Rat) (*big.Rat, *big.Rat) {
	one := whole(1)
	switch op {
	case api.OpNeg:
		return whole(-1), one
	case api.OpRelu:
		return whole(max(0, x.Sign())), one
	case api.OpAbs:
		return whole(x.Sign()), one
	case api.OpExp:
		return y, one
	case api.OpLog:
		return one, x
	case api.OpTanh:
		return minus(one, times(y, y)), one
	case api.OpSigmoid:
		return times(y, minus(one, y)), one
	case api.OpSoftplus:
		p, _ := elem.Sigmoid(b, width)
		return ratio(p, width), one
	}
	return one, times(whole(2), y)
}

// rowTerms tells the terms of an element of OpSoftmax or OpLogSoft.
func rowTerms(op int, y api.Matrix, r, c int) []term {
	var l []term
	for j := range y.Cols {
		b := y.Bits[r*y.Cols+j]
		if op == api.OpLogSoft {
			b, _ = elem.Exp(b, y.Width)
		}
		factor := times(whole(-1), ratio(b, y.Width))
		if j == c {
			factor = plus(whole(1), factor)
		}
		if op == api.OpSoftmax {
			factor = times(ratio(y.Bits[r*y.Cols+c], y.Width), factor)
		}
		l = append(l, term{factor, 0, r*y.Cols + j})
	}
	return l
}

// gatheredTerms tells the terms of the operations whose elements take many, or one of many.
func gatheredTerms(op int, in []api.Matrix, y api.Matrix, r, c int) []term {
	var l []term
	x := in[0]
	switch op {
	case api.OpProduct:
		for k := range x.Cols {
			i, j := r*x.Cols+k, k*in[1].Cols+c
			l = append(l, term{ratio(in[1].Bits[j], x.Width), 0, i}, term{ratio(x.Bits[i], x.Width), 1, j})
		}
	case api.OpSum, api.OpMean:
		for k := range x.Bits {
			l = append(l, term{whole(1), 0, k})
		}
	case api.OpSumRows:
		for k := range x.Cols {
			l = append(l, term{whole(1), 0, r*x.Cols + k})
		}
	case api.OpSumCols:
		for k := range x.Rows {
			l = append(l, term{whole(1), 0, k*x.Cols + c})
		}
	case api.OpGreatest:
		place := 0
		for k := range x.Cols {
			if float(x.Bits[r*x.Cols+k], x.Width) > float(x.Bits[r*x.Cols+place], x.Width) {
				place = k
			}
		}
		l = append(l, term{whole(1), 0, r*x.Cols + place})
	default:
		l = rowTerms(op, y, r, c)
	}
	return l
}

// termsOf tells the terms of the element of a row and a column, and the divisor.
func termsOf(n api.Node, in []api.Matrix, y api.Matrix, r, c int) ([]term, *big.Rat) {
	x := in[0]
	switch here := ratio(y.Bits[r*y.Cols+c], y.Width); {
	case n.Op <= api.OpDiv:
		i, k := at(x, r, c), at(in[1], r, c)
		return pairTerms(n.Op, ratio(x.Bits[i], x.Width), ratio(in[1].Bits[k], x.Width), here, i, k)
	case n.Op <= api.OpSoftplus:
		i := r*x.Cols + c
		factor, by := eachFactor(n.Op, x.Bits[i], x.Width, ratio(x.Bits[i], x.Width), here)
		return []term{{factor, 0, i}}, by
	case n.Op == api.OpMean:
		return gatheredTerms(n.Op, in, y, r, c), whole(len(x.Bits))
	case n.Op == api.OpWide || n.Op == api.OpNarrow:
		return []term{{whole(1), 0, r*x.Cols + c}}, whole(1)
	}
	return gatheredTerms(n.Op, in, y, r, c), whole(1)
}

// moves are the operations whose elements only go elsewhere.
var moves = []int{api.OpTurn, api.OpForm, api.OpCutCols, api.OpCutRows, api.OpGlueCols, api.OpGlueRows, api.OpWindow}

// toldOf tells the bits of a quotient that is rounded once; by 0 infinite, or no number.
func toldOf(sum, by *big.Rat, width int) int {
	if by.Sign() != 0 {
		return rounded(new(big.Rat).Quo(sum, by), width)
	}
	if sum.Sign() == 0 {
		return none(width)
	}
	return mat(1, 1, width, math.Inf(sum.Sign())).Bits[0]
}

// sum is what was brought to an element: what is finite of it, and whether something infinite, of either sign, or no number came.
type sum struct {
	finite            *big.Rat
	above, below, not bool
}

// add adds a float.
func (s *sum) add(b, width int) {
	switch f := float(b, width); {
	case f != f:
		s.not = true
	case f == inf:
		s.above = true
	case f == -inf:
		s.below = true
	default:
		s.finite = plus(s.finite, ratio(b, width))
	}
}

// told tells the bits of a sum.
func (s sum) told(width int) int {
	switch {
	case s.not || s.above && s.below:
		return none(width)
	case s.above:
		return infinite(width)
	case s.below:
		return bits.Neg(infinite(width), width)
	}
	return rounded(s.finite, width)
}

// sums tells empty sums, as many as a matrix has elements.
func sums(m api.Matrix) []sum {
	l := make([]sum, len(m.Bits))
	for i := range l {
		l[i].finite = new(big.Rat)
	}
	return l
}

// quotients are the operations whose derivatives stand in brackets.
var quotients = []int{api.OpDiv, api.OpLog, api.OpSqrt, api.OpMean}

// bringTo brings what a node's adjoint makes to the sums of those that the node takes; rounding tells the operations whose parts are rounded.
func bringTo(onto [][]sum, n api.Node, in []api.Matrix, y, adjoint api.Matrix, rounding []int) {
	var moved [][]term
	if slices.Contains(moves, n.Op) {
		moved = movedTerms(n, in)
	}
	for i, b := range adjoint.Bits {
		by := whole(1)
		var terms []term
		if moved != nil {
			terms = moved[i]
		} else {
			terms, by = termsOf(n, in, y, i/y.Cols, i%y.Cols)
		}
		for _, t := range terms {
			s, product := &onto[t.which][t.k], times(t.factor, ratio(b, y.Width))
			if slices.Contains(rounding, n.Op) {
				s.add(toldOf(product, by, y.Width), y.Width)
			} else {
				s.finite = plus(s.finite, product.Quo(product, by))
			}
		}
	}
}

// unfit tells the fault of a seed that is to have the shape of a value.
func unfit(m, value api.Matrix, node int) api.Fault {
	e := tensor.Check(m)
	if e == api.OK && m.Width != value.Width {
		e = api.ErrWidth
	}
	if e == api.OK && (m.Rows != value.Rows || m.Cols != value.Cols) {
		e = api.ErrShape
	}
	if e != api.OK {
		return api.Fault{Err: e, Node: node}
	}
	return unfinite(m, node)
}

// unfinite tells the fault of a matrix that is not finite.
func unfinite(m api.Matrix, node int) api.Fault {
	for at, b := range m.Bits {
		switch f := float(b, m.Width); {
		case f != f:
			return api.Fault{Err: api.ErrNaN, Node: node, At: at}
		case f-f != 0:
			return api.Fault{Err: api.ErrInf, Node: node, At: at}
		}
	}
	return api.Fault{}
}

// hangsOn tells of each node whether a node hangs on it.
func hangsOn(t api.Tape, node int) []bool {
	hangs := make([]bool, len(t.Nodes))
	hangs[node] = true
	for i := node; i >= 0; i-- {
		for _, k := range t.Nodes[i].In {
			hangs[k] = hangs[k] || hangs[i]
		}
	}
	return hangs
}

// runOf is P1201 reckoned once more.
func runOf(t api.Tape, values []api.Matrix, node int, seed api.Matrix) ([]api.Matrix, api.Fault) {
	return runBy(t, values, node, seed, quotients)
}

// runExactly is what it would be without the brackets.
func runExactly(t api.Tape, values []api.Matrix, node int, seed api.Matrix) ([]api.Matrix, api.Fault) {
	return runBy(t, values, node, seed, nil)
}

// runBy is both of these.
func runBy(t api.Tape, values []api.Matrix, node int, seed api.Matrix, rounding []int) ([]api.Matrix, api.Fault) {
	f := eval.Check(t, values)
	if f.Err == api.OK && (node < 0 || node >= len(values)) {
		f = api.Fault{Err: api.ErrNode}
	}
	if f.Err == api.OK {
		f = unfit(seed, values[node], node)
	}
	if f.Err != api.OK {
		return nil, f
	}
	adjoints, brought := copies(values), make([][]sum, len(values))
	for i, m := range values {
		brought[i] = sums(m)
		adjoints[i].Bits = make([]int, len(m.Bits))
	}
	for i, b := range seed.Bits {
		brought[node][i].add(b, seed.Width)
	}
	hangs := hangsOn(t, node)
	for i := node; i >= 0; i-- {
		if !hangs[i] {
			continue
		}
		for k, s := range brought[i] {
			adjoints[i].Bits[k] = s.told(adjoints[i].Width)
		}
		if f := unfinite(adjoints[i], i); f.Err != api.OK {
			return nil, f
		}
		var in []api.Matrix
		var onto [][]sum
		for _, k := range t.Nodes[i].In {
			in, onto = append(in, values[k]), append(onto, brought[k])
		}
		if len(in) > 0 {
			bringTo(onto, t.Nodes[i], in, values[i], adjoints[i], rounding)
		}
	}
	return adjoints, api.Fault{}
}
