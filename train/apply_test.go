package train_test

import (
	"math/rand"
	"slices"
	"testing"

	"pupil/acc"
	"pupil/api"
	"pupil/part"
	"pupil/rate"
	"pupil/train"
)

// asked is what Apply is asked with.
type asked struct {
	p    api.Plan
	s    api.Set
	x    api.State
	part api.Part
}

func (a asked) apply() told { return made(train.Apply(a.p, a.s, a.x, a.part)) }

func (a asked) words() told { return made(applyOf(a.p, a.s, a.x, a.part)) }

func (a asked) copied() asked {
	return asked{clonedPlan(a.p), clonedSet(a.s), cloned(a.x), clonedPart(a.part)}
}

// partAt tells what a step's rows tell, which they must.
func partAt(t *testing.T, p api.Plan, s api.Set, x api.State) api.Part {
	t.Helper()
	rows, e := train.Rows(p, s, x)
	if e != api.OK {
		t.Fatalf("Rows: %v", e)
	}
	told, where, e := part.Of(p, x.Params, s, rows)
	if e != api.OK {
		t.Fatalf("Of: %v, %v", where, e)
	}
	return told
}

// plainly is a step of the plain rule, the fifth one, without decay, clip and norm: rows 3 of 7, four parameters of both widths.
func plainly(t *testing.T, width int) asked {
	t.Helper()
	p, s := subject(width)
	p.Rule = api.Rule{}
	x := behind(t, p, s, 4)
	return asked{p, s, x, partAt(t, p, s, x)}
}

// times tells the sum of a float, so many times.
func times(b, width, count int) api.Acc {
	a, _ := acc.Total(slices.Repeat([]int{b}, count), width)
	return a
}

// hitch is something for which Apply is refused: which of its looks finds it, and what it tells.
type hitch struct {
	name  string
	look  int
	spoil func(a *asked)
	where api.Where
	e     api.Errno
}

// The looks of Apply, in their order.
const (
	lookState = iota
	lookRows
	lookPart
	lookLoss
	lookGrads
	lookAt
	lookNorm
	lookParams
)

// rowHitches are parts of other rows.
func rowHitches() []hitch {
	var l []hitch
	of := func(name string, rows func(rows []int) []int) {
		l = append(l, hitch{name, lookRows, func(a *asked) { a.part.Rows = rows(slices.Clone(a.part.Rows)) }, api.Where{}, api.ErrRow})
	}
	of("no rows", func(rows []int) []int { return nil })
	of("a row less", func(rows []int) []int { return rows[:2] })
	of("another row less", func(rows []int) []int { return rows[1:] })
	of("a row more", func(rows []int) []int {
		for r := range 7 {
			if !slices.Contains(rows, r) {
				rows = append(rows, r)
				break
			}
		}
		slices.Sort(rows)
		return rows
	})
	of("a row more that there is not", func(rows []int) []int { return append(rows, 7) })
	of("other rows", func(rows []int) []int {
		var l []int
		for r := range 7 {
			if !slices.Contains(rows, r) && len(l) < 3 {
				l = append(l, r)
			}
		}
		return l
	})
	of("another row", func(rows []int) []int { return append(rows[:2], 4095) })
	of("a row twice", func(rows []int) []int { return append(rows, rows[2]) })
	of("rows in another order", func(rows []int) []int { return []int{rows[1], rows[0], rows[2]} })
	of("all rows", func(rows []int) []int { return upTo(7) })
	of("ints at their ends", func(rows []int) []int { return []int{lowest, 0, highest} })
	return l
}

// partHitches are parts that can't be closed.
func partHitches() []hitch {
	var l []hitch
	of := func(name string, e api.Errno, spoil func(x *api.Part)) {
		l = append(l, hitch{name, lookPart, func(a *asked) { spoil(&a.part) }, api.Where{}, e})
	}
	of("no gradients", api.ErrParam, func(x *api.Part) { x.Grads = nil })
	of("a gradient less", api.ErrParam, func(x *api.Part) { x.Grads = x.Grads[:3] })
	of("a gradient more", api.ErrParam, func(x *api.Part) { x.Grads = append(x.Grads, x.Grads[0]) })
	of("a loss that is not in form", api.ErrArg, func(x *api.Part) { x.Loss.Sum = api.Num{Mag: []int{2}} })
	of("a gradient that is not in form", api.ErrArg, func(x *api.Part) { x.Grads[3][3].Sum = api.Num{Neg: true} })
	of("too few elements", api.ErrShape, func(x *api.Part) { x.Grads[0] = x.Grads[0][:5] })
	of("too many elements", api.ErrShape, func(x *api.Part) { x.Grads[2] = append(x.Grads[2], api.Acc{}) })
	return l
}

// sumHitches are sums whose means are not finite: the loss's, and gradients'.
func sumHitches(width int) []hitch {
	var l []hitch
	v := otherOf(width)
	flags := []struct {
		a api.Acc
		e api.Errno
	}{{api.Acc{Plus: true}, api.ErrInf}, {api.Acc{Minus: true}, api.ErrInf}, {api.Acc{None: true}, api.ErrNaN}, {api.Acc{Plus: true, Minus: true}, api.ErrNaN}, {times(greatestOf(v), v, 4), api.ErrInf}}
	for _, f := range flags {
		l = append(l, hitch{"a loss", lookLoss, func(a *asked) { a.part.Loss = f.a }, api.Where{Kind: api.InLoss, Node: 12}, f.e})
		for _, place := range [][2]int{{0, 0}, {0, 5}, {1, 1}, {2, 0}, {3, 3}} {
			sum := f.a
			if len(sum.Sum.Mag) > 0 {
				w := width
				if place[0] > 1 {
					w = v
				}
				sum = times(greatestOf(w), w, 4)
			}
			l = append(l, hitch{"a gradient", lookGrads, func(a *asked) { a.part.Grads[place[0]][place[1]] = sum }, api.Where{Kind: api.InGrad, Node: place[0], At: place[1]}, f.e})
		}
	}
	return l
}

// steep is a schedule whose rates are infinite from the third step on.
var steep = api.Schedule{Kind: api.RateSteps, Base: 0x3FF0000000000000, Factor: api.Inf - 1, Every: 1}

// ruleHitches are a rate, a norm, and parameters, that come out too great.
func ruleHitches(width int) []hitch {
	wide, narrow := 0, 2 // The first parameters of width 64 and 32.
	if width == 32 {
		wide, narrow = 3, 0
	}
	l := []hitch{
		{"an infinite rate", lookAt, func(a *asked) { a.p.Schedule = steep }, api.Where{}, api.ErrInf},
		{"an infinite norm", lookNorm, func(a *asked) {
			a.p.Rule.Norm = greatestOf(64)
			a.part.Grads[wide][0], a.part.Grads[wide][1] = times(greatestOf(64), 64, 3), times(greatestOf(64), 64, 3)
		}, api.Where{}, api.ErrInf},
		{"a rate too great for binary32", lookParams, func(a *asked) { a.p.Schedule.Base = bitsOf(1e100) }, api.Where{Kind: api.InParam, Node: narrow}, api.ErrArg},
	}
	for _, place := range [][2]int{{0, 0}, {0, 4}, {1, 1}, {2, 0}, {3, 0}, {3, 3}} {
		l = append(l, hitch{"a parameter", lookParams, func(a *asked) {
			w := a.x.Params[place[0]].Width
			a.x.Params[place[0]].Bits[place[1]] = greatestOf(w)
			a.part.Grads[place[0]][place[1]] = times(greatestOf(w)^minusOf(w), w, 3)
		}, api.Where{Kind: api.InParam, Node: place[0], At: place[1]}, api.ErrInf})
	}
	return l
}

// stateHitches are some of what Rows refuses.
func stateHitches(width int) []hitch {
	last := func(a *asked) { a.x = moved(a.p, a.s, a.x, api.MaxStep) }
	return []hitch{
		{"no batch", lookState, func(a *asked) { a.p.Batch = 0 }, api.Where{}, api.ErrArg},
		{"no set", lookState, func(a *asked) { a.s.X.Bits[0] = infinityOf(width) + 1 }, api.Where{}, api.ErrNaN},
		{"no state", lookState, func(a *asked) { a.x.Batch++ }, api.Where{}, api.ErrState},
		{"too few slots", lookState, func(a *asked) { a.x.Slots = a.x.Slots[:3] }, api.Where{}, api.ErrState},
		{"the last step", lookState, last, api.Where{}, api.ErrLong},
	}
}

func hitches(width int) []hitch {
	return slices.Concat(stateHitches(width), rowHitches(), partHitches(), sumHitches(width), ruleHitches(width))
}

// TestP2105Alone: each refusal by itself.
func TestP2105Alone(t *testing.T) {
	for _, w := range widths {
		a := plainly(t, w)
		want(t, "the step", a.apply(), a.words())
		for _, h := range hitches(w) {
			b := a.copied()
			h.spoil(&b)
			wantRefused(t, h.name+" by the words", b.words(), h.where, h.e)
			wantRefused(t, h.name, b.apply(), h.where, h.e)
		}
	}
}

// TestP2105Order: of two refusals the one that is looked for first is told.
func TestP2105Order(t *testing.T) {
	for _, w := range widths {
		a := plainly(t, w)
		for _, h := range hitches(w) {
			for _, g := range hitches(w) {
				if h.look >= g.look {
					continue
				}
				b := a.copied()
				g.spoil(&b)
				h.spoil(&b) // Laid last, so that what the other one lays at the same place is gone.
				wantRefused(t, h.name+", "+g.name, b.apply(), h.where, h.e)
			}
		}
	}
}

// TestP2105First: of several gradients, and of several parameters, that are refused the first one is told.
func TestP2105First(t *testing.T) {
	for _, w := range widths {
		a := plainly(t, w)
		l := slices.Concat(sumHitches(w), ruleHitches(w))
		told := 0
		for _, h := range l {
			for _, g := range l {
				ahead := h.where.Node < g.where.Node || h.where.Node == g.where.Node && h.where.At < g.where.At
				if h.look != g.look || h.look != lookGrads && h.look != lookParams || !ahead {
					continue
				}
				b := a.copied()
				g.spoil(&b)
				h.spoil(&b)
				wantRefused(t, h.name+", "+g.name, b.apply(), h.where, h.e)
				told++
			}
		}
		if told < 50 {
			t.Errorf("%d pairs", told)
		}
	}
}

// TestP2105State: the new state and the trace, part by part.
func TestP2105State(t *testing.T) {
	for _, w := range widths {
		for _, kind := range kinds {
			p, s := subject(w)
			p.Rule = ruleOf(kind)
			p.Schedule = api.Schedule{Kind: api.RateRoot, Base: bitsOf(0.125), Every: 3, Warm: 2}
			x := begun(t, p, s)
			for step := range 7 {
				whole := partAt(t, p, s, x)
				loss, _, _, _ := part.Close(p, whole)
				speed, _ := rate.At(p.Schedule, step)
				y, trace, where, e := train.Apply(p, s, x, whole)
				if e != api.OK || where != (api.Where{}) {
					t.Fatalf("kind %d, step %d: %v, %v", kind, step, where, e)
				}
				if y.Step != step+1 || y.Epoch != (step+1)/3 || y.Batch != (step+1)%3 || y.Loss != loss || y.Rate != speed {
					t.Errorf("kind %d, step %d: %v", kind, step, y)
				}
				if trace != (api.Trace{Step: step, Loss: loss, Rate: speed, Sum: sumOf(y)}) {
					t.Errorf("kind %d, step %d: %v", kind, step, trace)
				}
				want(t, "the words", made(y, trace, where, e), made(applyOf(p, s, x, whole)))
				wantIs(t, "the new state", p, s, y, api.OK)
				x = y
			}
		}
	}
}

// TestP2105Any: a part may tell sums that its rows don't: the step goes by the part.
func TestP2105Any(t *testing.T) {
	for _, w := range widths {
		p, s := linear(w), api.Set{X: vals(2, 1, w, 5, 7), Y: vals(2, 1, w, 1, 2)}
		p.Schedule.Base, p.Batch = bitsOf(0.5), 2
		x := begun(t, p, s)
		given := api.Part{Rows: []int{0, 1}, Loss: times(pattern(3, w), w, 1), Grads: [][]api.Acc{{times(pattern(8, w), w, 1)}, {times(pattern(-12, w), w, 1)}}}
		y, trace, where, e := train.Apply(p, s, x, given)
		next := api.State{Step: 1, Epoch: 1, Loss: pattern(1.5, w), Rate: bitsOf(0.5), Params: []api.Matrix{vals(1, 1, w, -1), vals(1, 1, w, 3)}, Slots: [][]api.Matrix{nil, nil}}
		want(t, "a part", made(y, trace, where, e), told{state: next, traces: []api.Trace{{Loss: pattern(1.5, w), Rate: bitsOf(0.5), Sum: sumOf(next)}}})
	}
}

// TestP2105Norm: all gradients together are brought to the norm.
func TestP2105Norm(t *testing.T) {
	for _, w := range widths {
		p, s := linear(w), api.Set{X: vals(1, 1, w, 6), Y: vals(1, 1, w, 8)}
		p.Schedule.Base, p.Batch, p.Rule.Norm = bitsOf(1), 1, bitsOf(5)
		x, _, _, e := train.Step(p, s, begun(t, p, s))
		// The gradients are 6 and 8, of length 10: half of them is taken.
		if e != api.OK || !sameAll(x.Params, []api.Matrix{vals(1, 1, w, -2), vals(1, 1, w, -4)}) {
			t.Errorf("%x, %v", x, e)
		}
		p.Rule.Norm = bitsOf(10)
		x, _, _, e = train.Step(p, s, begun(t, p, s))
		if e != api.OK || !sameAll(x.Params, []api.Matrix{vals(1, 1, w, -5), vals(1, 1, w, -8)}) {
			t.Errorf("%x, %v", x, e)
		}
	}
}

// TestP2105Rules: what a rule keeps may let a parameter come out as no number, or a slot too great.
func TestP2105Rules(t *testing.T) {
	for _, w := range widths {
		for _, c := range []struct {
			kind int
			slot float64
			e    api.Errno
		}{{api.RuleAdagrad, -1e6, api.ErrNaN}, {api.RuleRms, -1e6, api.ErrNaN}, {api.RuleAdagrad, value(greatestOf(w), w), api.OK}, {api.RuleMomentum, value(greatestOf(w), w), api.OK}} {
			p, s := linear(w), api.Set{X: vals(3, 1, w, 1, 2, 3), Y: vals(3, 1, w, 3, 2, 1)}
			p.Rule = api.Rule{Kind: c.kind, Eps: bitsOf(1), Beta: bitsOf(0.5), Momentum: bitsOf(0.5)}
			for i := range 2 {
				x := begun(t, p, s)
				x.Slots[i][0].Bits[0] = pattern(c.slot, w)
				got := made(train.Step(p, s, x))
				want(t, "a rule", got, made(stepOf(p, s, x)))
				if where := (api.Where{Kind: api.InParam, Node: i}); c.e != api.OK {
					wantRefused(t, "no number", got, where, c.e)
				} else if got.e != api.OK {
					t.Errorf("%v", got)
				}
			}
		}
	}
}

// TestP2105Bare: a plan without a parameter: its steps tell the loss; the norm of its rule is looked at by Scale alone.
func TestP2105Bare(t *testing.T) {
	for _, w := range widths {
		p, s := bare(w), api.Set{X: vals(2, 2, w, 1, 2, 3, 4), Y: vals(2, 2, w, 1, 1, 1, 1)}
		p.Batch = 2
		x := begun(t, p, s)
		next := api.State{Step: 1, Epoch: 1, Loss: pattern(5, w), Rate: bitsOf(0.0625)}
		done := told{state: next, traces: []api.Trace{{Loss: pattern(5, w), Rate: bitsOf(0.0625), Sum: sumOf(next)}}}
		want(t, "no parameter", made(train.Step(p, s, x)), done)
		whole := partAt(t, p, s, x)
		for _, norm := range []int{api.NaN, api.Inf, bitsOf(-1)} {
			q := p
			q.Rule = api.Rule{Kind: 77, Norm: norm}
			wantRefused(t, "no norm", made(train.Apply(q, s, x, whole)), api.Where{}, api.ErrRule)
			wantRefused(t, "no norm", made(train.Step(q, s, x)), api.Where{}, api.ErrRule)
			want(t, "no norm", ran(train.Run(q, s, x, 3)), told{state: x, e: api.ErrRule})
			q.Schedule = steep
			wantRefused(t, "no norm, an infinite rate", made(train.Step(q, s, moved(q, s, x, 2))), api.Where{}, api.ErrInf)
		}
		q := p
		q.Rule = api.Rule{Kind: 77, Momentum: api.NaN, Norm: bitsOf(3)}
		want(t, "no rule", made(train.Step(q, s, x)), done)
	}
}

// TestP2105Rows: what stands behind a part's rows is not looked at; parts of each way to leave rows out are refused.
func TestP2105Rows(t *testing.T) {
	r := rand.New(rand.NewSource(2105))
	a := plainly(t, 64)
	want(t, "room behind the rows", asked{a.p, a.s, a.x, api.Part{Rows: append(slices.Clone(a.part.Rows), 99)[:3], Loss: a.part.Loss, Grads: a.part.Grads}}.apply(), a.apply())
	right := 0
	for range 300 {
		rows := r.Perm(7)[:r.Intn(8)]
		slices.Sort(rows)
		b := a.copied()
		b.part.Rows = rows
		if slices.Equal(rows, a.part.Rows) {
			right++
			want(t, "just the rows", b.apply(), a.apply())
			continue
		}
		wantRefused(t, "some rows", b.apply(), api.Where{}, api.ErrRow)
	}
	if right == 0 {
		t.Error("no rows were right")
	}
}

// TestP2105End: the last step that can be made leads to the last one that is a state.
func TestP2105End(t *testing.T) {
	for _, w := range widths {
		p, s, x := model(t, w)
		x = moved(p, s, x, api.MaxStep-1)
		y, trace, where, e := train.Apply(p, s, x, partAt(t, p, s, x))
		want(t, "the last step", made(y, trace, where, e), made(applyOf(p, s, x, partAt(t, p, s, x))))
		if e != api.OK || y.Step != api.MaxStep || trace.Step != api.MaxStep-1 {
			t.Errorf("%v, %v, %v", y, trace, e)
		}
		wantIs(t, "the last state", p, s, y, api.OK)
		wantRefused(t, "one more", made(train.Apply(p, s, y, api.Part{})), api.Where{}, api.ErrLong)
		wantRefused(t, "one more", made(train.Step(p, s, y)), api.Where{}, api.ErrLong)
	}
}
