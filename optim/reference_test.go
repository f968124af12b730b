package optim_test

import (
	"math"
	"math/big"
	"math/rand"
	"slices"
	"testing"

	"pupil/api"
	"pupil/bits"
	"pupil/optim"
)

// The reference reads the chapter's words on bits, operation by operation. Its operations stand alone: each takes bits and tells bits, reckoned in big floats that have all of the result, or more of it than can matter.

const (
	minus   = -1 << 63 // the bits of -0
	minus32 = 1 << 31
	one     = 0x3FF0000000000000
	one32   = 0x3F800000
	most    = api.Inf - 1
	most32  = api.Inf32 - 1
	toInf   = 0x47EFFFFFF0000000 // the least binary64 that width 32 rounds to infinity
	toZero  = 0x3690000000000000 // the greatest one above 0 that width 32 rounds to 0
	toOne   = 0x3FEFFFFFF0000000 // the least one that width 32 rounds to 1
)

var widths = []int{32, 64}

var kinds = []int{api.RulePlain, api.RuleMomentum, api.RuleNesterov, api.RuleAdagrad, api.RuleRms, api.RuleAdam}

func bitsOf(f float64) int { return int(math.Float64bits(f)) }

// pattern tells a number's bits of a width.
func pattern(f float64, width int) int {
	if width == 32 {
		return int(math.Float32bits(float32(f)))
	}
	return bitsOf(f)
}

// value tells what bits say.
func value(b, width int) float64 {
	if width == 32 {
		return float64(math.Float32frombits(uint32(b)))
	}
	return math.Float64frombits(uint64(b))
}

func finite(f float64) bool { return !math.IsNaN(f) && !math.IsInf(f, 0) }

// nearest tells the bits of the float that is nearest to a big one; what rounds to a nought keeps its sign.
func nearest(x *big.Float, width int) int {
	if width == 32 {
		f, _ := x.Float32()
		return int(math.Float32bits(f))
	}
	f, _ := x.Float64()
	return bitsOf(f)
}

// told tells the bits of a float that the width has.
func told(f float64, width int) int {
	switch {
	case !math.IsNaN(f):
		return pattern(f, width)
	case width == 32:
		return api.NaN32
	}
	return api.NaN
}

func large(f float64) *big.Float { return new(big.Float).SetPrec(5000).SetFloat64(f) }

// single is a single operation of finite floats; of others the language's own, which is not rounded there.
func single(op byte, a, b, width int) int {
	x, y := value(a, width), value(b, width)
	if finite(x) && finite(y) && (op != '/' || y != 0) {
		z, short := large(0), new(big.Float).SetPrec(300)
		switch op {
		case '+':
			z.Add(large(x), large(y))
		case '-':
			z.Sub(large(x), large(y))
		case '*':
			z.Mul(large(x), large(y))
		case '/':
			z = short.Quo(large(x), large(y))
		}
		return nearest(z, width)
	}
	switch op {
	case '+':
		return told(x+y, width)
	case '-':
		return told(x-y, width)
	case '*':
		return told(x*y, width)
	}
	return told(x/y, width)
}

// rootOf is the single root.
func rootOf(a, width int) int {
	x := value(a, width)
	if finite(x) && x > 0 {
		return nearest(new(big.Float).SetPrec(300).Sqrt(large(x)), width)
	}
	return told(math.Sqrt(x), width)
}

// operations are single ones, from one of several sources.
type operations struct {
	single func(op byte, a, b, width int) int
	root   func(a, width int) int
}

func (o operations) sum(a, b, width int) int     { return o.single('+', a, b, width) }
func (o operations) less(a, b, width int) int    { return o.single('-', a, b, width) }
func (o operations) product(a, b, width int) int { return o.single('*', a, b, width) }
func (o operations) by(a, b, width int) int      { return o.single('/', a, b, width) }

// alone are the reference's own.
var alone = operations{single, rootOf}

// chapter1 are those of package bits.
var chapter1 = operations{
	func(op byte, a, b, width int) int {
		return map[byte]func(a, b, w int) int{'+': bits.Add, '-': bits.Sub, '*': bits.Mul, '/': bits.Div}[op](a, b, width)
	},
	bits.Sqrt,
}

// narrowed are those of binary64, each narrowed to the width.
var narrowed = operations{
	func(op byte, a, b, width int) int {
		x, y := value(a, width), value(b, width)
		return told(map[byte]float64{'+': x + y, '-': x - y, '*': x * y, '/': x / y}[op], width)
	},
	func(a, width int) int { return told(math.Sqrt(value(a, width)), width) },
}

// number tells a binary64 as a float of a width, -0 as 0.
func number(b, width int) int {
	x := value(b, 64)
	if x == 0 || !finite(x) {
		return told(x*x, width)
	}
	return nearest(large(x), width)
}

// isRule is Check by the chapter's words.
func isRule(r api.Rule, width int) api.Errno {
	if !slices.Contains(widths, width) {
		return api.ErrWidth
	}
	wrong := !slices.Contains(kinds, r.Kind)
	five := []int{r.Momentum, r.Beta, r.Eps, r.Decay, r.Clip}
	for _, b := range append([]int{r.Norm}, five...) {
		wrong = wrong || !finite(value(b, 64)) || value(b, 64) < 0
	}
	for i, b := range five {
		x := value(number(b, width), width)
		wrong = wrong || math.IsInf(x, 0) || i < 2 && x >= 1
	}
	wants := r.Kind == api.RuleAdagrad || r.Kind == api.RuleRms || r.Kind == api.RuleAdam
	if wrong || wants && value(number(r.Eps, width), width) == 0 {
		return api.ErrRule
	}
	return api.OK
}

// isFinite is chapter 7's Finite, without the place.
func isFinite(m api.Matrix) api.Errno {
	elems := new(big.Int).Mul(big.NewInt(int64(m.Rows)), big.NewInt(int64(m.Cols)))
	switch {
	case !slices.Contains(widths, m.Width):
		return api.ErrWidth
	case m.Rows < 1 || m.Cols < 1:
		return api.ErrShape
	case elems.Cmp(big.NewInt(api.MaxElems)) > 0:
		return api.ErrLong
	case elems.Cmp(big.NewInt(int64(len(m.Bits)))) != 0:
		return api.ErrShape
	}
	for _, b := range m.Bits {
		if m.Width == 32 && (b < 0 || b > math.MaxUint32) {
			return api.ErrBits
		}
	}
	for _, b := range m.Bits {
		switch x := value(b, m.Width); {
		case math.IsNaN(x):
			return api.ErrNaN
		case math.IsInf(x, 0):
			return api.ErrInf
		}
	}
	return api.OK
}

// filled tells a matrix that is one element over and over.
func filled(rows, cols, width, b int) api.Matrix {
	return api.Matrix{Rows: rows, Cols: cols, Width: width, Bits: slices.Repeat([]int{b}, rows*cols)}
}

// beginning is what Fresh makes of what is right.
func beginning(kind int, w api.Matrix) []api.Matrix {
	like := filled(w.Rows, w.Cols, w.Width, 0)
	switch kind {
	case api.RulePlain:
		return nil
	case api.RuleAdam:
		return []api.Matrix{like, like, filled(1, 2, w.Width, pattern(1, w.Width))}
	}
	return []api.Matrix{like}
}

// asked is what Step is asked with.
type asked struct {
	r     api.Rule
	rate  int
	w, g  api.Matrix
	slots []api.Matrix
}

// refusal tells Step's error ahead of all elements.
func (a asked) refusal() api.Errno {
	if e := isFinite(a.w); e != api.OK {
		return e
	}
	if e := isRule(a.r, a.w.Width); e != api.OK {
		return e
	}
	if rate := value(a.rate, 64); !finite(rate) || rate < 0 || math.IsInf(value(number(a.rate, a.w.Width), a.w.Width), 0) {
		return api.ErrArg
	}
	if e := isFinite(a.g); e != api.OK {
		return e
	}
	if a.g.Width != a.w.Width {
		return api.ErrWidth
	}
	if a.g.Rows != a.w.Rows || a.g.Cols != a.w.Cols {
		return api.ErrShape
	}
	want := beginning(a.r.Kind, a.w)
	if len(a.slots) != len(want) {
		return api.ErrState
	}
	for i, m := range a.slots {
		if isFinite(m) != api.OK || m.Width != want[i].Width || m.Rows != want[i].Rows || m.Cols != want[i].Cols {
			return api.ErrState
		}
	}
	return api.OK
}

// answer is what Step answers.
type answer struct {
	w     api.Matrix
	slots []api.Matrix
	at    int
	e     api.Errno
}

func (a asked) step() answer {
	w, slots, at, e := optim.Step(a.r, a.rate, a.w, a.g, a.slots)
	return answer{w, slots, at, e}
}

// want is Step by the chapter's words, with these operations.
func (a asked) want(o operations) answer {
	if e := a.refusal(); e != api.OK {
		return answer{e: e}
	}
	width := a.w.Width
	n := row{operations: o, width: width, one: pattern(1, width), rate: number(a.rate, width),
		m: number(a.r.Momentum, width), b: number(a.r.Beta, width), e: number(a.r.Eps, width), d: number(a.r.Decay, width), c: number(a.r.Clip, width)}
	made := answer{w: cloned([]api.Matrix{a.w})[0], slots: cloned(a.slots)}
	if a.r.Kind == api.RuleAdam {
		last := made.slots[2].Bits
		last[0], last[1] = o.product(last[0], n.m, width), o.product(last[1], n.b, width)
		n.p, n.q = last[0], last[1]
	}
	for i := range a.w.Bits {
		slots := [2]int{}
		for k := range min(2, len(a.slots)) {
			slots[k] = a.slots[k].Bits[i]
		}
		w, v, s := n.becomes(a.r.Kind, a.w.Bits[i], a.g.Bits[i], slots[0], slots[1])
		for _, b := range []int{v, s, w} {
			if x := value(b, width); math.IsNaN(x) {
				return answer{at: i, e: api.ErrNaN}
			} else if math.IsInf(x, 0) {
				return answer{at: i, e: api.ErrInf}
			}
		}
		made.w.Bits[i] = w
		for k := range min(2, len(a.slots)) {
			made.slots[k].Bits[i] = [2]int{v, s}[k]
		}
	}
	return made
}

// row is the numbers of a step, as bits of its width.
type row struct {
	operations
	width, one, rate, m, b, e, d, c, p, q int
}

// becomes tells the new w, v, s of an element: the chapter's three points, and its table.
func (n row) becomes(kind, w, g, v, s int) (int, int, int) {
	k := n.width
	if value(n.d, k) != 0 {
		g = n.sum(g, n.product(n.d, w, k), k)
	}
	if c := value(n.c, k); c != 0 {
		if value(g, k) > c {
			g = n.c
		} else if value(g, k) < -c {
			g = pattern(-c, k)
		}
	}
	switch kind {
	case api.RulePlain:
		w = n.less(w, n.product(n.rate, g, k), k)
	case api.RuleMomentum:
		v = n.sum(n.product(n.m, v, k), g, k)
		w = n.less(w, n.product(n.rate, v, k), k)
	case api.RuleNesterov:
		v = n.sum(n.product(n.m, v, k), g, k)
		w = n.less(w, n.product(n.rate, n.sum(g, n.product(n.m, v, k), k), k), k)
	case api.RuleAdagrad:
		v = n.sum(v, n.product(g, g, k), k)
		w = n.less(w, n.by(n.product(n.rate, g, k), n.sum(n.root(v, k), n.e, k), k), k)
	case api.RuleRms:
		v = n.sum(n.product(n.b, v, k), n.product(n.less(n.one, n.b, k), n.product(g, g, k), k), k)
		w = n.less(w, n.by(n.product(n.rate, g, k), n.sum(n.root(v, k), n.e, k), k), k)
	case api.RuleAdam:
		v = n.sum(n.product(n.m, v, k), n.product(n.less(n.one, n.m, k), g, k), k)
		s = n.sum(n.product(n.b, s, k), n.product(n.less(n.one, n.b, k), n.product(g, g, k), k), k)
		mean, square := n.by(v, n.less(n.one, n.p, k), k), n.by(s, n.less(n.one, n.q, k), k)
		w = n.less(w, n.by(n.product(n.rate, mean, k), n.sum(n.root(square, k), n.e, k), k), k)
	}
	return w, v, s
}

// same tells whether two matrices are the same bits.
func same(a, b api.Matrix) bool {
	return a.Rows == b.Rows && a.Cols == b.Cols && a.Width == b.Width && slices.Equal(a.Bits, b.Bits)
}

func allSame(a, b []api.Matrix) bool { return slices.EqualFunc(a, b, same) }

func (a answer) same(b answer) bool {
	return same(a.w, b.w) && allSame(a.slots, b.slots) && a.at == b.at && a.e == b.e
}

// cloned tells the same matrices in memory of their own.
func cloned(l []api.Matrix) []api.Matrix {
	l = slices.Clone(l)
	for i := range l {
		l[i].Bits = slices.Clone(l[i].Bits)
	}
	return l
}

// held holds Step against the reference, and tells its error.
func held(t *testing.T, a asked, o operations) api.Errno {
	t.Helper()
	got, want := a.step(), a.want(o)
	if !got.same(want) {
		t.Errorf("%+v:\n%x\nwant\n%x", a, got, want)
	}
	return got.e
}

// mat tells a matrix of bits.
func mat(rows, cols, width int, b ...int) api.Matrix {
	return api.Matrix{Rows: rows, Cols: cols, Width: width, Bits: b}
}

// vals tells a matrix of one row, of numbers.
func vals(width int, l ...float64) api.Matrix {
	m := api.Matrix{Rows: 1, Cols: len(l), Width: width}
	for _, f := range l {
		m.Bits = append(m.Bits, pattern(f, width))
	}
	return m
}

// anyFinite tells finite bits of all sizes.
func anyFinite(r *rand.Rand, width int) int {
	for {
		b := int(r.Uint64())
		if width == 32 {
			b = int(r.Uint32())
		}
		if finite(value(b, width)) {
			return b
		}
	}
}

// common tells a float of a size that is often met.
func common(r *rand.Rand, width int) int {
	return pattern(r.NormFloat64()*math.Exp(3*r.NormFloat64()), width)
}

// random tells a matrix of elements that something tells.
func random(r *rand.Rand, rows, cols, width int, one func(r *rand.Rand, width int) int) api.Matrix {
	m := filled(rows, cols, width, 0)
	for i := range m.Bits {
		m.Bits[i] = one(r, width)
	}
	return m
}

// TestReference: the reference's operations are those of chapter 1.
func TestReference(t *testing.T) {
	r := rand.New(rand.NewSource(1))
	for _, width := range widths {
		l := edges(width)
		for range 60 {
			l = append(l, anyFinite(r, width), common(r, width))
		}
		l = append(l, told(math.Inf(1), width), told(math.Inf(-1), width), told(math.NaN(), width))
		for _, a := range l {
			if got, want := rootOf(a, width), chapter1.root(a, width); got != want {
				t.Errorf("root of %x: %x, %x", a, got, want)
			}
			for _, b := range l {
				for _, op := range []byte("+-*/") {
					if got, want := single(op, a, b, width), chapter1.single(op, a, b, width); got != want {
						t.Errorf("%x %c %x: %x, %x", a, op, b, got, want)
					}
				}
			}
		}
	}
}

// edges are finite floats at the ends of what there is, of both signs.
func edges(width int) []int {
	l, sign := []int{0, 1, 2, 0x007FFFFF, 0x00800000, most32, one32, one32 - 1, one32 + 1, pattern(0x1p64, 32), pattern(0x1p-75, 32), pattern(0.1, 32), pattern(3, 32)}, minus32
	if width == 64 {
		l, sign = []int{0, 1, 2, 0x000FFFFFFFFFFFFF, 0x0010000000000000, most, one, one - 1, one + 1, bitsOf(0x1p512), bitsOf(0x1p-537), bitsOf(0.1), bitsOf(3)}, minus
	}
	for _, b := range slices.Clone(l) {
		l = append(l, b|sign)
	}
	return l
}
