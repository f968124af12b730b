package bound_test

import (
	"math"
	"math/big"
	"slices"
	"testing"

	"pupil/api"
	"pupil/elem"
	"pupil/forward"
	"pupil/kernel"
	"pupil/reverse"
)

// The chapter reckoned once more, plainly: of each element of a node a list of terms, each a fraction and an element that is taken, by one divisor; the way ahead goes over it from what is taken, the way back from the element. Where elements only go elsewhere, it is seen from a matrix of their places where each one goes.

// float tells the value of finite bits.
func float(b, width int) float64 {
	if width == 32 {
		return float64(math.Float32frombits(uint32(b)))
	}
	return math.Float64frombits(uint64(b))
}

// ratio tells the value of finite bits as a fraction.
func ratio(b, width int) *big.Rat { return new(big.Rat).SetFloat64(float(b, width)) }

func plus(a, b *big.Rat) *big.Rat  { return new(big.Rat).Add(a, b) }
func minus(a, b *big.Rat) *big.Rat { return new(big.Rat).Sub(a, b) }
func times(a, b *big.Rat) *big.Rat { return new(big.Rat).Mul(a, b) }
func whole(n int) *big.Rat         { return big.NewRat(int64(n), 1) }

// rounded tells the bits of the float that is nearest to a fraction; of 0 never -0.
func rounded(x *big.Rat, width int) int {
	if width == 32 {
		f, _ := x.Float32()
		return int(math.Float32bits(f + 0))
	}
	f, _ := x.Float64()
	return int(math.Float64bits(f + 0))
}

// term is a factor, and the element that is taken: which of the matrices that are taken, and where in it.
type term struct {
	factor   *big.Rat
	which, k int
}

// at tells where the element stands that comes to a row and a column of what a matrix is stretched to.
func at(m api.Matrix, r, c int) int {
	if m.Rows == 1 {
		r = 0
	}
	if m.Cols == 1 {
		c = 0
	}
	return r*m.Cols + c
}

// placesOf tells, of matrices, others whose elements are 1, 2, .. through all of them: the place of an element, and 1.
func placesOf(in []api.Matrix) []api.Matrix {
	l, next := copies(in), 0
	for i := range l {
		for k := range l[i].Bits {
			next++
			l[i].Bits[k] = mat(1, 1, l[i].Width, float64(next)).Bits[0]
		}
	}
	return l
}

// movedTerms tells of an operation that moves elements which one comes to each place.
func movedTerms(n api.Node, in []api.Matrix) [][]term {
	m, _ := kernel.Do(n.Op, n.A, n.B, placesOf(in))
	var l [][]term
	for _, b := range m.Bits {
		which, k := 0, int(float(b, m.Width))-1
		for k >= len(in[which].Bits) {
			k -= len(in[which].Bits)
			which++
		}
		l = append(l, []term{{whole(1), which, k}})
	}
	return l
}

// pairTerms tells the terms of the operations on two elements, and the divisor.
func pairTerms(op int, x, u, y *big.Rat, i, k int) ([]term, *big.Rat) {
	switch op {
	case api.OpAdd:
		return []term{{whole(1), 0, i}, {whole(1), 1, k}}, whole(1)
	case api.OpSub:
		return []term{{whole(1), 0, i}, {whole(-1), 1, k}}, whole(1)
	case api.OpMul:
		return []term{{u, 0, i}, {x, 1, k}}, whole(1)
	}
	return []term{{whole(1), 0, i}, {times(whole(-1), y), 1, k}}, u
}

// eachFactor tells the factor of the operations on one element, and the divisor; b is the element's bits.
func eachFactor(op, b, width int, x, y *big.Rat) (*big.Rat, *big.Rat) {
	one := whole(1)
	switch op {
	case api.OpNeg:
		return whole(-1), one
	case api.OpRelu:
		return whole(max(0, x.Sign())), one
	case api.OpAbs:
		return whole(x.Sign()), one
	case api.OpExp:
		return y, one
	case api.OpLog:
		return one, x
	case api.OpTanh:
		return minus(one, times(y, y)), one
	case api.OpSigmoid:
		return times(y, minus(one, y)), one
	case api.OpSoftplus:
		p, _ := elem.Sigmoid(b, width)
		return ratio(p, width), one
	}
	return one, times(whole(2), y)
}

// rowTerms tells the terms of an element of OpSoftmax or OpLogSoft.
func rowTerms(op int, y api.Matrix, r, c int) []term {
	var l []term
	for j := range y.Cols {
		b := y.Bits[r*y.Cols+j]
		if op == api.OpLogSoft {
			b, _ = elem.Exp(b, y.Width)
		}
		factor := times(whole(-1), ratio(b, y.Width))
		if j == c {
			factor = plus(whole(1), factor)
		}
		if op == api.OpSoftmax {
			factor = times(ratio(y.Bits[r*y.Cols+c], y.Width), factor)
		}
		l = append(l, term{factor, 0, r*y.Cols + j})
	}
	return l
}

// gatheredTerms tells the terms of the operations whose elements take many, or one of many.
func gatheredTerms(op int, in []api.Matrix, y api.Matrix, r, c int) []term {
	var l []term
	x := in[0]
	switch op {
	case api.OpProduct:
		for k := range x.Cols {
			i, j := r*x.Cols+k, k*in[1].Cols+c
			l = append(l, term{ratio(in[1].Bits[j], x.Width), 0, i}, term{ratio(x.Bits[i], x.Width), 1, j})
		}
	case api.OpSum, api.OpMean:
		for k := range x.Bits {
			l = append(l, term{whole(1), 0, k})
		}
	case api.OpSumRows:
		for k := range x.Cols {
			l = append(l, term{whole(1), 0, r*x.Cols + k})
		}
	case api.OpSumCols:
		for k := range x.Rows {
			l = append(l, term{whole(1), 0, k*x.Cols + c})
		}
	case api.OpGreatest:
		place := 0
		for k := range x.Cols {
			if float(x.Bits[r*x.Cols+k], x.Width) > float(x.Bits[r*x.Cols+place], x.Width) {
				place = k
			}
		}
		l = append(l, term{whole(1), 0, r*x.Cols + place})
	default:
		l = rowTerms(op, y, r, c)
	}
	return l
}

// termsOf tells the terms of the element of a row and a column, and the divisor.
func termsOf(n api.Node, in []api.Matrix, y api.Matrix, r, c int) ([]term, *big.Rat) {
	x := in[0]
	switch here := ratio(y.Bits[r*y.Cols+c], y.Width); {
	case n.Op <= api.OpDiv:
		i, k := at(x, r, c), at(in[1], r, c)
		return pairTerms(n.Op, ratio(x.Bits[i], x.Width), ratio(in[1].Bits[k], x.Width), here, i, k)
	case n.Op <= api.OpSoftplus:
		i := r*x.Cols + c
		factor, by := eachFactor(n.Op, x.Bits[i], x.Width, ratio(x.Bits[i], x.Width), here)
		return []term{{factor, 0, i}}, by
	case n.Op == api.OpMean:
		return gatheredTerms(n.Op, in, y, r, c), whole(len(x.Bits))
	case n.Op == api.OpWide || n.Op == api.OpNarrow:
		return []term{{whole(1), 0, r*x.Cols + c}}, whole(1)
	}
	return gatheredTerms(n.Op, in, y, r, c), whole(1)
}

// moves are the operations whose elements only go elsewhere.
var moves = []int{api.OpTurn, api.OpForm, api.OpCutCols, api.OpCutRows, api.OpGlueCols, api.OpGlueRows, api.OpWindow}

// expressionsOf tells the terms of all elements of a node, and their divisors.
func expressionsOf(n api.Node, in []api.Matrix, y api.Matrix) ([][]term, []*big.Rat) {
	var all [][]term
	if slices.Contains(moves, n.Op) {
		all = movedTerms(n, in)
		return all, slices.Repeat([]*big.Rat{whole(1)}, len(all))
	}
	var by []*big.Rat
	for i := range y.Bits {
		l, d := termsOf(n, in, y, i/y.Cols, i%y.Cols)
		all, by = append(all, l), append(by, d)
	}
	return all, by
}

// quotients are the operations whose derivatives stand in brackets on the way back.
var quotients = []int{api.OpDiv, api.OpLog, api.OpSqrt, api.OpMean}

// real is a number, or, where there is none, an infinite end.
type real struct {
	number *big.Rat
	above  bool
}

func realOf(b, width int) real {
	if f := float(b, width); math.IsInf(f, 0) {
		return real{above: f > 0}
	}
	return real{number: ratio(b, width)}
}

func (x real) plus(y real) real {
	if x.number == nil {
		return x
	}
	if y.number == nil {
		return y
	}
	return real{number: plus(x.number, y.number)}
}

// times multiplies with what is not 0.
func (x real) times(c *big.Rat) real {
	if x.number == nil {
		return real{above: x.above == (c.Sign() > 0)}
	}
	return real{number: times(x.number, c)}
}

// down and up tell the bits of the greatest float that is not greater, and of the least one that is not less.
func (x real) down(width int) int {
	if x.number == nil {
		return mat(1, 1, width, -inf).Bits[0]
	}
	f := float(rounded(x.number, width), width)
	if f == inf || f > -inf && new(big.Rat).SetFloat64(f).Cmp(x.number) > 0 {
		f = below(f, width)
	}
	return mat(1, 1, width, f+0).Bits[0]
}

func (x real) up(width int) int {
	turned := real{above: !x.above}
	if x.number != nil {
		turned.number = times(whole(-1), x.number)
	}
	return mat(1, 1, width, 0-float(turned.down(width), width)).Bits[0]
}

// below tells the float before one.
func below(f float64, width int) float64 {
	if width == 32 {
		return float64(math.Nextafter32(float32(f), float32(-inf)))
	}
	return math.Nextafter(f, -inf)
}

// interval is a span that is not rounded.
type interval struct{ lo, hi real }

func intervalOf(s api.Span, width int) interval {
	return interval{realOf(s.Lo, width), realOf(s.Hi, width)}
}

func nothing() interval { return interval{real{number: new(big.Rat)}, real{number: new(big.Rat)}} }

func (i interval) plus(j interval) interval { return interval{i.lo.plus(j.lo), i.hi.plus(j.hi)} }

func (i interval) times(c *big.Rat) interval {
	switch c.Sign() {
	case 0:
		return nothing()
	case -1:
		return interval{i.hi.times(c), i.lo.times(c)}
	}
	return interval{i.lo.times(c), i.hi.times(c)}
}

func (i interval) outward(width int) api.Span {
	return api.Span{Lo: i.lo.down(width), Hi: i.hi.up(width)}
}

// has tells whether a number lies in it.
func (i interval) has(x *big.Rat) bool {
	return (i.lo.number == nil || i.lo.number.Cmp(x) <= 0) && (i.hi.number == nil || i.hi.number.Cmp(x) >= 0)
}

// isLeaf tells whether a node takes none.
func isLeaf(n api.Node) bool { return len(n.In) == 0 }

// inOf tells the values of the nodes that a node takes.
func inOf(n api.Node, values []api.Matrix) []api.Matrix {
	var in []api.Matrix
	for _, k := range n.In {
		in = append(in, values[k])
	}
	return in
}

// forwardOf is P1301 reckoned once more, of the directions at the leaves' nodes.
func forwardOf(t api.Tape, values, given []api.Matrix) [][]api.Span {
	spans := make([][]api.Span, len(t.Nodes))
	for node, n := range t.Nodes {
		if isLeaf(n) {
			for _, b := range given[node].Bits {
				spans[node] = append(spans[node], intervalOf(api.Span{Lo: b, Hi: b}, given[node].Width).outward(given[node].Width))
			}
			continue
		}
		in := inOf(n, values)
		all, by := expressionsOf(n, in, values[node])
		for i, l := range all {
			sum := nothing()
			for _, x := range l {
				sum = sum.plus(intervalOf(spans[n.In[x.which]][x.k], in[x.which].Width).times(x.factor))
			}
			spans[node] = append(spans[node], sum.times(by[i].Inv(by[i])).outward(values[node].Width))
		}
	}
	return spans
}

// hangsOn tells of each node whether a node hangs on it.
func hangsOn(t api.Tape, node int) []bool {
	hangs := make([]bool, len(t.Nodes))
	hangs[node] = true
	for i := node; i >= 0; i-- {
		for _, k := range t.Nodes[i].In {
			hangs[k] = hangs[k] || hangs[i]
		}
	}
	return hangs
}

// reverseOf is P1302 reckoned once more.
func reverseOf(t api.Tape, values []api.Matrix, node int, seed api.Matrix) [][]api.Span {
	spans, sums := make([][]api.Span, len(t.Nodes)), make([][]interval, len(t.Nodes))
	for i, m := range values {
		for range m.Bits {
			sums[i] = append(sums[i], nothing())
		}
	}
	for i, b := range seed.Bits {
		sums[node][i] = intervalOf(api.Span{Lo: b, Hi: b}, seed.Width)
	}
	hangs := hangsOn(t, node)
	for i := len(values) - 1; i >= 0; i-- {
		n, width := t.Nodes[i], values[i].Width
		for _, sum := range sums[i] {
			spans[i] = append(spans[i], sum.outward(width))
		}
		if isLeaf(n) || !hangs[i] {
			continue
		}
		all, by := expressionsOf(n, inOf(n, values), values[i])
		for k, l := range all {
			for _, x := range l {
				part := intervalOf(spans[i][k], width).times(x.factor)
				if slices.Contains(quotients, n.Op) {
					part = intervalOf(part.times(new(big.Rat).Inv(by[k])).outward(width), width)
				}
				onto := &sums[n.In[x.which]][x.k]
				*onto = onto.plus(part)
			}
		}
	}
	return spans
}

// seats tells the directions at the nodes of inputs and parameters, and noughts at others.
func seats(x told) []api.Matrix {
	given := copies(x.values)
	for node, n := range x.tape.Nodes {
		given[node].Bits = make([]int, len(given[node].Bits))
		switch n.Op {
		case api.OpInput:
			given[node] = x.inputs[n.A]
		case api.OpParam:
			given[node] = x.params[n.A]
		}
	}
	return given
}

// pairing is a sum of products of floats with told floats, and with the spans of these.
type pairing struct {
	sum   *big.Rat
	spans interval
}

func (p *pairing) add(factors, told api.Matrix, spans []api.Span) {
	for i, b := range factors.Bits {
		c := ratio(b, factors.Width)
		p.sum = plus(p.sum, times(c, ratio(told.Bits[i], told.Width)))
		p.spans = p.spans.plus(intervalOf(spans[i], told.Width).times(c))
	}
}

// tellOf is P1303 reckoned once more, of what both ways tell and of the spans of that.
func tellOf(x told, tangents, adjoints []api.Matrix, ahead, back [][]api.Span) api.Told {
	there, home := pairing{new(big.Rat), nothing()}, pairing{new(big.Rat), nothing()}
	given := seats(x)
	there.add(x.seed, tangents[x.node], ahead[x.node])
	for i, spans := range back {
		if isLeaf(x.tape.Nodes[i]) {
			home.add(given[i], adjoints[i], spans) // A constant's are noughts.
		}
	}
	w := x.values[x.node].Width
	return api.Told{
		Forward: rounded(there.sum, w), Reverse: rounded(home.sum, w),
		ForwardSpan: there.spans.outward(w), ReverseSpan: home.spans.outward(w),
	}
}

// wantAll holds all three calls against the chapter reckoned once more; the faults are those of both ways. It tells whether neither stopped.
func wantAll(t *testing.T, what string, x told) bool {
	t.Helper()
	var ahead, back [][]api.Span
	tangents, f := forward.Run(x.tape, x.values, x.inputs, x.params)
	if f == (api.Fault{}) {
		ahead = forwardOf(x.tape, x.values, seats(x))
	}
	if got, h := x.forward(); h != f || !sameSpans(got, ahead) {
		t.Errorf("%s: Forward of %v tells %x %v, want %x %v", what, x, got, h, ahead, f)
	}
	adjoints, g := reverse.Run(x.tape, x.values, x.node, x.seed)
	if g == (api.Fault{}) {
		back = reverseOf(x.tape, x.values, x.node, x.seed)
	}
	if got, h := x.reverse(); h != g || !sameSpans(got, back) {
		t.Errorf("%s: Reverse of %v tells %x %v, want %x %v", what, x, got, h, back, g)
	}
	if f == (api.Fault{}) {
		f = g
	}
	var all api.Told
	if f == (api.Fault{}) {
		all = tellOf(x, tangents, adjoints, ahead, back)
	}
	if got, h := x.tell(); h != f || got != all {
		t.Errorf("%s: Tell of %v tells %x %v, want %x %v", what, x, got, h, all, f)
	}
	return f == (api.Fault{})
}
