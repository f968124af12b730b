package part_test

import (
	"math"
	"math/big"
	"slices"

	"pupil/api"
	"pupil/data"
	"pupil/eval"
	"pupil/reverse"
	"pupil/tape"
	"pupil/tensor"
)

// The chapter reckoned once more, plainly: rows one behind the other, by chapters 10 and 12, and their sums as whole numbers times powers of 2.

// power is a whole number times a power of 2.
type power struct {
	n   *big.Int
	exp int
}

// whole is a small whole number times a power of 2.
func whole(n int64, exp int) power { return power{big.NewInt(n), exp} }

// powerOf tells the value of finite bits.
func powerOf(b, width int) power {
	fraction, exp := math.Frexp(value(b, width))
	return power{big.NewInt(int64(fraction * (1 << 53))), exp - 53}
}

// plus is the sum; 0 brings nothing, wherever its power stands.
func (a power) plus(b power) power {
	switch {
	case a.n.Sign() == 0:
		return b
	case b.n.Sign() == 0:
		return a
	case a.exp > b.exp:
		return b.plus(a)
	}
	n := new(big.Int).Lsh(b.n, uint(b.exp-a.exp))
	return power{n.Add(n, a.n), a.exp}
}

// times is the product with a small whole number.
func (a power) times(n int64) power { return power{new(big.Int).Mul(a.n, big.NewInt(n)), a.exp} }

// num tells the one valid Num; false: there is none.
func (a power) num() (api.Num, bool) {
	if a.n.Sign() == 0 {
		return api.Num{}, true
	}
	low := int(a.n.TrailingZeroBits())
	odd := new(big.Int).Rsh(new(big.Int).Abs(a.n), uint(low))
	x := api.Num{Neg: a.n.Sign() < 0, Exp: a.exp + low}
	if odd.BitLen() > 30*api.MaxDigits || max(x.Exp, -x.Exp) > api.MaxExp {
		return api.Num{}, false
	}
	words := append(odd.Bits(), 0)
	for place := 0; place < odd.BitLen(); place += 30 {
		at, shift := place/64, place%64
		x.Mag = append(x.Mag, int(words[at]>>shift|words[at+1]<<(64-shift))&(1<<30-1))
	}
	return x, true
}

// acc tells the sum that is this number.
func (a power) acc() api.Acc {
	x, ok := a.num()
	if !ok {
		panic("a number too long")
	}
	return api.Acc{Sum: x}
}

// numbered tells what a valid Num says.
func numbered(x api.Num) power {
	n := new(big.Int)
	for _, d := range slices.Backward(x.Mag) {
		n.Lsh(n, 30).Or(n, big.NewInt(int64(d)))
	}
	if x.Neg {
		n.Neg(n)
	}
	return power{n, x.Exp}
}

// nearest tells the float of a width that is nearest to the n-th part; never -0.
func (a power) nearest(n, width int) int {
	const far = 100000 // so far from 1 no float of either width is left, whatever it is divided by
	if a.n.Sign() == 0 || a.exp+a.n.BitLen() < -far {
		return 0
	}
	if a.exp > far {
		return pattern(math.Inf(a.n.Sign()), width)
	}
	r, shift := new(big.Rat).SetInt(a.n), new(big.Int).Lsh(big.NewInt(1), uint(max(a.exp, -a.exp)))
	r.Quo(r, new(big.Rat).SetInt64(int64(n)))
	if a.exp < 0 {
		r.Quo(r, new(big.Rat).SetInt(shift))
	} else {
		r.Mul(r, new(big.Rat).SetInt(shift))
	}
	f, _ := r.Float64()
	if width == 32 {
		narrow, _ := r.Float32()
		f = float64(narrow)
	}
	return pattern(f+0, width)
}

// validOf tells whether a sum is in its form, by chapter 2's words.
func validOf(a api.Acc) bool {
	x := a.Sum
	if len(x.Mag) == 0 {
		return !x.Neg && x.Exp == 0
	}
	if len(x.Mag) > api.MaxDigits || x.Mag[0]&1 == 0 || x.Mag[len(x.Mag)-1] == 0 || x.Exp < -api.MaxExp || x.Exp > api.MaxExp {
		return false
	}
	return !slices.ContainsFunc(x.Mag, func(d int) bool { return d < 0 || d >= 1<<30 })
}

// mergedOf adds two sums; false: the sum is too long.
func mergedOf(a, b api.Acc) (api.Acc, bool) {
	x, y := numbered(a.Sum), numbered(b.Sum)
	// Numbers that stand so far apart can't be laid out in one.
	if x.n.Sign() != 0 && y.n.Sign() != 0 && (x.exp > y.exp+y.n.BitLen()+70000 || y.exp > x.exp+x.n.BitLen()+70000) {
		return api.Acc{}, false
	}
	sum, ok := x.plus(y).num()
	return api.Acc{Sum: sum, Plus: a.Plus || b.Plus, Minus: a.Minus || b.Minus, None: a.None || b.None}, ok
}

// meanOf tells the n-th part of a sum as a float.
func meanOf(a api.Acc, n, width int) int {
	switch {
	case a.None || a.Plus && a.Minus:
		return noneOf(width)
	case a.Plus:
		return infinityOf(width)
	case a.Minus:
		return negative(infinityOf(width), width)
	}
	return numbered(a.Sum).nearest(n, width)
}

// nodesOf tells the nodes of an operation, inputs or parameters, by their numbers.
func nodesOf(t api.Tape, op int) []api.Node {
	var l []api.Node
	for number := range api.MaxParams {
		for _, n := range t.Nodes {
			if n.Op == op && n.A == number {
				l = append(l, n)
			}
		}
	}
	return l
}

// fitsOf is P2001.
func fitsOf(p api.Plan, s api.Set) api.Errno {
	if _, e := data.Check(s); e != api.OK {
		return e
	}
	shapes, f := tape.Check(p.Tape)
	if f.Err != api.OK {
		return f.Err
	}
	if p.Out < 0 || p.Loss < 0 || p.Out > len(shapes)-1 || p.Loss > len(shapes)-1 {
		return api.ErrNode
	}
	if shapes[p.Loss].Rows != 1 || shapes[p.Loss].Cols != 1 {
		return api.ErrShape
	}
	inputs := nodesOf(p.Tape, api.OpInput)
	if len(inputs) != 2 {
		return api.ErrInput
	}
	if inputs[0].Width != s.X.Width {
		return api.ErrWidth
	}
	if inputs[0].Rows != 1 || inputs[0].Cols != s.X.Cols {
		return api.ErrShape
	}
	if inputs[1].Width != s.Y.Width {
		return api.ErrWidth
	}
	if inputs[1].Rows != 1 || inputs[1].Cols != s.Y.Cols {
		return api.ErrShape
	}
	params := nodesOf(p.Tape, api.OpParam)
	if len(params) != len(p.Inits) {
		return api.ErrParam
	}
	for i, n := range params {
		if n.Width != p.Inits[i].Width {
			return api.ErrWidth
		}
		if n.Rows != p.Inits[i].Rows || n.Cols != p.Inits[i].Cols {
			return api.ErrShape
		}
	}
	return api.OK
}

// aheadOf is what P2002 says ahead of the rows.
func aheadOf(p api.Plan, params []api.Matrix, s api.Set, rows []int) api.Errno {
	if e := fitsOf(p, s); e != api.OK {
		return e
	}
	nodes := nodesOf(p.Tape, api.OpParam)
	if len(params) != len(nodes) {
		return api.ErrParam
	}
	for i, m := range params {
		if _, e := tensor.Finite(m); e != api.OK {
			return e
		}
		if m.Width != nodes[i].Width {
			return api.ErrWidth
		}
		if m.Rows != nodes[i].Rows || m.Cols != nodes[i].Cols {
			return api.ErrShape
		}
	}
	if len(rows) == 0 {
		return api.ErrNone
	}
	if len(rows) > 256 {
		return api.ErrLong
	}
	for i, r := range rows {
		if r < 0 || r >= s.X.Rows || i > 0 && r <= rows[i-1] {
			return api.ErrRow
		}
	}
	return api.OK
}

// valuesOf tells the values of a row, or where they stop.
func valuesOf(p api.Plan, params []api.Matrix, s api.Set, r int) ([]api.Matrix, api.Where, api.Errno) {
	cut := func(m api.Matrix) api.Matrix {
		return api.Matrix{Rows: 1, Cols: m.Cols, Width: m.Width, Bits: m.Bits[r*m.Cols : (r+1)*m.Cols]}
	}
	values, f := eval.Run(p.Tape, []api.Matrix{cut(s.X), cut(s.Y)}, params)
	if f.Err != api.OK {
		return nil, api.Where{Kind: api.InValue, Row: r, Node: f.Node, At: f.At}, f.Err
	}
	return values, api.Where{}, api.OK
}

// rowOf tells the values of a row, and the adjoints, or where it stops.
func rowOf(p api.Plan, params []api.Matrix, s api.Set, r int) (values, adjoints []api.Matrix, _ api.Where, _ api.Errno) {
	values, where, e := valuesOf(p, params, s, r)
	if e != api.OK {
		return nil, nil, where, e
	}
	width := values[p.Loss].Width
	adjoints, f := reverse.Run(p.Tape, values, p.Loss, vals(1, 1, width, 1))
	if f.Err != api.OK {
		return nil, nil, api.Where{Kind: api.InAdjoint, Row: r, Node: f.Node, At: f.At}, f.Err
	}
	return values, adjoints, api.Where{}, api.OK
}

// partOf is P2002.
func partOf(p api.Plan, params []api.Matrix, s api.Set, rows []int) (api.Part, api.Where, api.Errno) {
	if e := aheadOf(p, params, s, rows); e != api.OK {
		return api.Part{}, api.Where{}, e
	}
	loss := whole(0, 0)
	grads := make([][]power, len(params))
	for i, m := range params {
		for range m.Bits {
			grads[i] = append(grads[i], whole(0, 0))
		}
	}
	for _, r := range rows {
		values, adjoints, where, e := rowOf(p, params, s, r)
		if e != api.OK {
			return api.Part{}, where, e
		}
		loss = loss.plus(powerOf(values[p.Loss].Bits[0], values[p.Loss].Width))
		for node, n := range p.Tape.Nodes {
			if n.Op != api.OpParam {
				continue
			}
			for k, b := range adjoints[node].Bits {
				grads[n.A][k] = grads[n.A][k].plus(powerOf(b, n.Width))
			}
		}
	}
	told := api.Part{Rows: slices.Clone(rows), Loss: loss.acc()}
	for _, l := range grads {
		var sums []api.Acc
		for _, x := range l {
			sums = append(sums, x.acc())
		}
		told.Grads = append(told.Grads, sums)
	}
	return told, api.Where{}, api.OK
}

// inFormOf is P2003.
func inFormOf(x api.Part) bool {
	for i, r := range x.Rows {
		if r < 0 || r > 4095 || i > 0 && r <= x.Rows[i-1] {
			return false
		}
	}
	for _, l := range x.Grads {
		if slices.ContainsFunc(l, func(a api.Acc) bool { return !validOf(a) }) {
			return false
		}
	}
	return len(x.Rows) > 0 && validOf(x.Loss)
}

// joinOf is P2004.
func joinOf(a, b api.Part) (api.Part, api.Errno) {
	if !inFormOf(a) || !inFormOf(b) {
		return api.Part{}, api.ErrArg
	}
	if len(a.Grads) != len(b.Grads) {
		return api.Part{}, api.ErrShape
	}
	for i := range a.Grads {
		if len(a.Grads[i]) != len(b.Grads[i]) {
			return api.Part{}, api.ErrShape
		}
	}
	told := api.Part{Grads: make([][]api.Acc, len(a.Grads))}
	for r := range 4096 {
		inA, inB := slices.Contains(a.Rows, r), slices.Contains(b.Rows, r)
		if inA && inB {
			return api.Part{}, api.ErrRow
		}
		if inA || inB {
			told.Rows = append(told.Rows, r)
		}
	}
	var ok bool
	if told.Loss, ok = mergedOf(a.Loss, b.Loss); !ok {
		return api.Part{}, api.ErrLong
	}
	for i := range a.Grads {
		for k := range a.Grads[i] {
			sum, ok := mergedOf(a.Grads[i][k], b.Grads[i][k])
			if !ok {
				return api.Part{}, api.ErrLong
			}
			told.Grads[i] = append(told.Grads[i], sum)
		}
	}
	return told, api.OK
}

// closeOf is P2005.
func closeOf(p api.Plan, x api.Part) (int, []api.Matrix, api.Where, api.Errno) {
	shapes, f := tape.Check(p.Tape)
	if f.Err != api.OK {
		return 0, nil, api.Where{}, f.Err
	}
	params := nodesOf(p.Tape, api.OpParam)
	switch {
	case p.Loss < 0 || p.Loss > len(shapes)-1:
		return 0, nil, api.Where{}, api.ErrNode
	case len(params) != len(x.Grads):
		return 0, nil, api.Where{}, api.ErrParam
	case !inFormOf(x):
		return 0, nil, api.Where{}, api.ErrArg
	}
	for i, n := range params {
		if n.Rows*n.Cols != len(x.Grads[i]) {
			return 0, nil, api.Where{}, api.ErrShape
		}
	}
	loss := meanOf(x.Loss, len(x.Rows), shapes[p.Loss].Width)
	if e := refusal(loss, shapes[p.Loss].Width); e != api.OK {
		return 0, nil, api.Where{Kind: api.InLoss, Node: p.Loss}, e
	}
	var grads []api.Matrix
	for i, n := range params {
		m := matrix(n.Rows, n.Cols, n.Width)
		for k, a := range x.Grads[i] {
			m.Bits = append(m.Bits, meanOf(a, len(x.Rows), n.Width))
			if e := refusal(m.Bits[k], n.Width); e != api.OK {
				return 0, nil, api.Where{Kind: api.InGrad, Node: i, At: k}, e
			}
		}
		grads = append(grads, m)
	}
	return loss, grads, api.Where{}, api.OK
}
