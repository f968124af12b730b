package train_test

import (
	"math/rand"
	"testing"

	"pupil/api"
	"pupil/part"
	"pupil/train"
)

// stopping is a plan whose loss is y times the sum of the logarithms of x's first two and of the roots of its last two, each times a parameter's element, 1 both.
func stopping(width int) api.Plan {
	p := planOf(4, 10, input(0, 1, 4, width), input(1, 1, 1, width), param(0, 1, 2, width),
		numbers(api.OpCutCols, 0, 2, 0), takes(api.OpLog, 3), numbers(api.OpCutCols, 2, 4, 0), takes(api.OpSqrt, 5), takes(api.OpMul, 6, 2),
		takes(api.OpAdd, 4, 7), takes(api.OpSum, 8), takes(api.OpMul, 9, 1))
	p.Inits[0].Kind, p.Inits[0].A = api.InitConst, bitsOf(1)
	return p
}

// row is a row of it: where it stops, and why; OK: it does not.
type row struct {
	x, y  []float64
	where api.Where
	e     api.Errno
}

// rowKinds are rows that stop in values and in adjoints; the first two don't.
func rowKinds(width int) []row {
	value := func(node, at int) api.Where { return api.Where{Kind: api.InValue, Node: node, At: at} }
	adjoint := func(node, at int) api.Where { return api.Where{Kind: api.InAdjoint, Node: node, At: at} }
	tiny, great := 1e-300, 1e308
	if width == 32 {
		tiny, great = 1e-38, 1e38
	}
	one := []float64{1}
	return []row{
		{x: []float64{1, 2, 3, 4}, y: one},
		{x: []float64{5, 0.5, 9, 0.25}, y: []float64{-3}},
		{[]float64{0, 1, 1, 1}, one, value(4, 0), api.ErrInf},
		{[]float64{1, -2, 1, 1}, one, value(4, 1), api.ErrNaN},
		{[]float64{1, 1, -1, 1}, one, value(6, 0), api.ErrNaN},
		{[]float64{1, 1, 1e10, 1}, []float64{great}, value(10, 0), api.ErrInf},
		{[]float64{1, 1, 0, 1}, one, adjoint(5, 0), api.ErrInf},
		{[]float64{1, 1, 1, 0}, []float64{0}, adjoint(5, 1), api.ErrNaN},
		{[]float64{tiny, 1, 1, 1}, []float64{1e10}, adjoint(3, 0), api.ErrInf},
		{[]float64{1, tiny, 1, 1}, []float64{-1e10}, adjoint(3, 1), api.ErrInf},
	}
}

// setOf makes a set of such rows.
func setOf(width int, l ...row) api.Set {
	s := api.Set{X: matrix(len(l), 4, width), Y: matrix(len(l), 1, width)}
	for _, k := range l {
		s.X.Bits = append(s.X.Bits, vals(1, 4, width, k.x...).Bits...)
		s.Y.Bits = append(s.Y.Bits, vals(1, 1, width, k.y...).Bits...)
	}
	return s
}

// TestP2106Stops: each kind of row that stops, at each place of a batch; of several the least one is told, whatever it is.
func TestP2106Stops(t *testing.T) {
	for _, w := range widths {
		p, all := stopping(w), rowKinds(w)
		p.Batch = 4
		for _, k := range all {
			for at := range 4 {
				l := []row{all[0], all[1], all[0], all[1]}
				l[at] = k
				s := setOf(w, l...)
				x := begun(t, p, s)
				got := made(train.Step(p, s, x))
				want(t, "the words", got, made(stepOf(p, s, x)))
				where := k.where
				where.Row = at
				if k.e != api.OK {
					wantRefused(t, "a row", got, where, k.e)
				} else if got.e != api.OK {
					t.Errorf("%v", got)
				}
				for _, other := range all {
					if k.e == api.OK {
						continue
					}
					for behind := at + 1; behind < 4; behind++ {
						l[behind] = other
					}
					wantRefused(t, "several rows", made(train.Step(p, setOf(w, l...), x)), where, k.e)
				}
			}
		}
	}
}

// TestP2106Batch: a row of another batch stops nothing; the row's own number is told when its batch comes.
func TestP2106Batch(t *testing.T) {
	for _, w := range widths {
		p, all := stopping(w), rowKinds(w)
		p.Batch = 1
		for at := range 5 {
			l := []row{all[0], all[1], all[0], all[1], all[0]}
			l[at] = all[6]
			s := setOf(w, l...)
			x := begun(t, p, s)
			for step := range 5 {
				y := moved(p, s, x, step)
				rows, _ := train.Rows(p, s, y)
				got := made(train.Step(p, s, y))
				if rows[0] == at {
					wantRefused(t, "its batch", got, api.Where{Kind: api.InAdjoint, Row: at, Node: 5}, api.ErrInf)
				} else if got.e != api.OK {
					t.Errorf("row %d: %v", rows[0], got)
				}
			}
		}
	}
}

// TestP2106Apply: a step is what Apply tells of what Of tells of its rows, of all rules, in both widths, from any state.
func TestP2106Apply(t *testing.T) {
	r := rand.New(rand.NewSource(2106))
	told := 0
	for _, w := range widths {
		for _, kind := range kinds {
			for round := range 8 {
				p, s := mixed(w), mixedSet(r, 1+r.Intn(12), w)
				p.Rule, p.Batch, p.Seed = ruleOf(kind), 1+r.Intn(6), r.Int()
				x := moved(p, s, begun(t, p, s), r.Intn(50))
				if round%2 == 1 {
					x = strayed(r, x)
				}
				step := made(train.Step(p, s, x))
				want(t, "the words", step, made(stepOf(p, s, x)))
				rows, _ := train.Rows(p, s, x)
				whole, _, e := part.Of(p, x.Params, s, rows)
				if e != api.OK {
					t.Fatal(e)
				}
				want(t, "Apply", made(train.Apply(p, s, x, whole)), step)
				if step.e == api.OK {
					told++
				}
			}
		}
	}
	if told < 50 {
		t.Errorf("%d are told", told)
	}
}

// TestP2106Rate: the rate of a step is its schedule's at the state's Step, whatever the state's own Rate is.
func TestP2106Rate(t *testing.T) {
	for _, w := range widths {
		p, s := linear(w), api.Set{X: vals(2, 1, w, 1, 1), Y: vals(2, 1, w, 4, 4)}
		p.Schedule, p.Batch = api.Schedule{Kind: api.RateLinear, Base: bitsOf(1), Total: 4}, 2
		x := begun(t, p, s)
		x.Rate, x.Loss = bitsOf(77), pattern(88, w)
		for step, speed := range []float64{1, 0.75, 0.5, 0.25, 0, 0} {
			y, trace, _, e := train.Step(p, s, moved(p, s, x, step))
			if e != api.OK || y.Rate != bitsOf(speed) || trace.Rate != bitsOf(speed) || trace.Step != step || !sameAll(y.Params, []api.Matrix{vals(1, 1, w, 1-speed), vals(1, 1, w, 0-4*speed)}) {
				t.Errorf("step %d: %x, %x, %v", step, y, trace, e)
			}
		}
	}
}
