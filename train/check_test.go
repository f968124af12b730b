package train_test

import (
	"math/rand"
	"testing"

	"pupil/api"
	"pupil/train"
)

// flaw is something for which a plan is none for a set: which of Check's looks finds it, and what it tells.
type flaw struct {
	name  string
	look  int
	spoil func(p *api.Plan, s *api.Set)
	e     api.Errno
}

// The looks, in their order.
const (
	lookFits = iota
	lookInits
	lookRule
	lookRate
	lookBatch
)

// subject is a plan for a set, of a width, that flaws are laid into: its four parameters are of both widths.
func subject(width int) (api.Plan, api.Set) {
	p := mixed(width)
	p.Rule = api.Rule{Kind: api.RuleMomentum, Momentum: bitsOf(0.5)}
	return p, mixedSet(rand.New(rand.NewSource(21)), 7, width)
}

// spoilt lays flaws into it, in memory of its own.
func spoilt(width int, l ...flaw) (api.Plan, api.Set) {
	p, s := subject(width)
	p, s = clonedPlan(p), clonedSet(s)
	for _, f := range l {
		f.spoil(&p, &s)
	}
	return p, s
}

// fitFlaws are those that Fits finds.
func fitFlaws(width int) []flaw {
	of := func(name string, e api.Errno, spoil func(p *api.Plan, s *api.Set)) flaw {
		return flaw{name, lookFits, spoil, e}
	}
	return []flaw{
		of("no width of X", api.ErrWidth, func(p *api.Plan, s *api.Set) { s.X.Width = 16 }),
		of("too few Y", api.ErrShape, func(p *api.Plan, s *api.Set) { s.Y.Bits = s.Y.Bits[1:] }),
		of("X is infinite", api.ErrInf, func(p *api.Plan, s *api.Set) { s.X.Bits[4] = infinityOf(width) }),
		of("Y is no number", api.ErrNaN, func(p *api.Plan, s *api.Set) { s.Y.Bits[13] = infinityOf(width) + 1 }),
		of("no operation", api.ErrOp, func(p *api.Plan, s *api.Set) { p.Tape.Nodes[6].Op = 99 }),
		of("no node ahead", api.ErrNode, func(p *api.Plan, s *api.Set) { p.Tape.Nodes[5].In[1] = 5 }),
		of("no node Out", api.ErrNode, func(p *api.Plan, s *api.Set) { p.Out = -1 }),
		of("no node Loss", api.ErrNode, func(p *api.Plan, s *api.Set) { p.Loss = 15 }),
		of("a loss of two columns", api.ErrShape, func(p *api.Plan, s *api.Set) { p.Loss = 6 }),
		of("three inputs", api.ErrInput, func(p *api.Plan, s *api.Set) {
			p.Tape.Nodes = append(p.Tape.Nodes, input(2, 1, 1, 64))
		}),
		of("a set of the other width", api.ErrWidth, func(p *api.Plan, s *api.Set) {
			*s = mixedSet(rand.New(rand.NewSource(1)), 7, otherOf(width))
		}),
		of("a set of other columns", api.ErrShape, func(p *api.Plan, s *api.Set) { s.X, s.Y = s.Y, s.X }),
		of("too few Inits", api.ErrParam, func(p *api.Plan, s *api.Set) { p.Inits = p.Inits[:3] }),
		of("too many Inits", api.ErrParam, func(p *api.Plan, s *api.Set) { p.Inits = append(p.Inits, p.Inits[0]) }),
		of("an Init of another width", api.ErrWidth, func(p *api.Plan, s *api.Set) { p.Inits[2].Width = width }),
		of("an Init of other rows", api.ErrShape, func(p *api.Plan, s *api.Set) { p.Inits[3].Rows = 1 }),
	}
}

// initFlaws are Inits that can't be made: the first, a middle, the last one.
func initFlaws() []flaw {
	var l []flaw
	for _, at := range []int{0, 1, 2, 3} {
		of := func(name string, e api.Errno, kind, a, b int) {
			l = append(l, flaw{name + " at " + string(rune('0'+at)), lookInits, func(p *api.Plan, s *api.Set) {
				p.Inits[at].Kind, p.Inits[at].A, p.Inits[at].B = kind, a, b
			}, e})
		}
		of("no kind", api.ErrRule, 6, 0, 0)
		of("a kind below 0", api.ErrRule, -1, 0, 0)
		of("a number that is not used", api.ErrArg, api.InitHe, 1, 0)
		of("no number", api.ErrNaN, api.InitConst, api.NaN, 0)
		of("an infinite one", api.ErrInf, api.InitUniform, 0, api.Inf)
		of("ends the wrong way", api.ErrArg, api.InitUniform, bitsOf(1), 0)
	}
	return l
}

// narrowFlaws are Inits that can't be made of width 32.
func narrowFlaws(width int) []flaw {
	places := []int{0, 1}
	if width == 64 {
		places = []int{2, 3}
	}
	var l []flaw
	for _, at := range places {
		l = append(l, flaw{"too great for binary32", lookInits, func(p *api.Plan, s *api.Set) {
			p.Inits[at].Kind, p.Inits[at].A, p.Inits[at].B = api.InitConst, bitsOf(1e300), 0
		}, api.ErrInf})
	}
	return l
}

// ruleFlaws are rules that are none; the narrow ones are rules of width 64 alone.
func ruleFlaws() []flaw {
	var l []flaw
	of := func(name string, spoil func(r *api.Rule)) {
		l = append(l, flaw{name, lookRule, func(p *api.Plan, s *api.Set) { spoil(&p.Rule) }, api.ErrRule})
	}
	of("no rule", func(r *api.Rule) { r.Kind = 6 })
	of("a rule below 0", func(r *api.Rule) { r.Kind = lowest })
	of("a momentum of 1", func(r *api.Rule) { r.Momentum = bitsOf(1) })
	of("an infinite decay", func(r *api.Rule) { r.Decay = api.Inf })
	of("a norm that is no number", func(r *api.Rule) { r.Norm = api.NaN })
	of("a norm below 0", func(r *api.Rule) { r.Norm = bitsOf(-1) })
	of("no eps", func(r *api.Rule) { r.Kind = api.RuleAdam })
	for _, f := range narrowRules() {
		of("a rule of width 64", f)
	}
	return l
}

func narrowRules() []func(r *api.Rule) {
	return []func(r *api.Rule){
		func(r *api.Rule) { r.Beta = bitsOf(1) - 1 },
		func(r *api.Rule) { r.Clip = bitsOf(1e300) },
		func(r *api.Rule) { r.Kind, r.Eps = api.RuleRms, bitsOf(1e-300) },
	}
}

// rateFlaws are schedules that are none.
func rateFlaws() []flaw {
	var l []flaw
	of := func(name string, c api.Schedule) {
		l = append(l, flaw{name, lookRate, func(p *api.Plan, s *api.Set) { p.Schedule = c }, api.ErrRule})
	}
	of("no schedule", api.Schedule{Kind: 6})
	of("a schedule below 0", api.Schedule{Kind: -1})
	of("a base that is no number", api.Schedule{Base: api.NaN})
	of("a base below 0", api.Schedule{Base: bitsOf(-1)})
	of("an infinite factor", api.Schedule{Factor: api.Inf})
	of("a warm-up below 0", api.Schedule{Warm: -1})
	of("too many steps", api.Schedule{Every: api.MaxStep + 1})
	of("a total below 0", api.Schedule{Total: lowest})
	of("steps without every", api.Schedule{Kind: api.RateSteps})
	of("a line without a total", api.Schedule{Kind: api.RateLinear})
	of("a power of 9", api.Schedule{Kind: api.RatePower, Every: 9, Total: 9})
	return l
}

// batchFlaws are sizes that no batch may have.
func batchFlaws() []flaw {
	var l []flaw
	for _, size := range []int{0, -1, lowest, api.MaxBatch + 1, highest} {
		l = append(l, flaw{"a batch of another size", lookBatch, func(p *api.Plan, s *api.Set) { p.Batch = size }, api.ErrArg})
	}
	return l
}

func flaws(width int) []flaw {
	l := fitFlaws(width)
	for _, more := range [][]flaw{initFlaws(), narrowFlaws(width), ruleFlaws(), rateFlaws(), batchFlaws()} {
		l = append(l, more...)
	}
	return l
}

func wantCheck(t *testing.T, what string, p api.Plan, s api.Set, e api.Errno) {
	t.Helper()
	if f := checkOf(p, s); f != e {
		t.Errorf("%s: the words say %v, not %v", what, f, e)
	}
	if f := train.Check(p, s); f != e {
		t.Errorf("%s: Check: %v, want %v", what, f, e)
	}
}

// TestP2101Right: plans that are ones for their sets.
func TestP2101Right(t *testing.T) {
	p, s := example()
	wantCheck(t, "the example", p, s, api.OK)
	for _, w := range widths {
		p, s := subject(w)
		for _, size := range []int{1, 2, 7, 8, api.MaxBatch - 1, api.MaxBatch} {
			p.Batch = size
			wantCheck(t, "a batch", p, s, api.OK)
		}
		for _, kind := range kinds {
			p.Rule = ruleOf(kind)
			wantCheck(t, "a rule", p, s, api.OK)
		}
		for _, c := range []api.Schedule{{}, {Kind: api.RateSteps, Every: 1}, {Kind: api.RateLinear, Total: 1}, {Kind: api.RateRoot, Every: 9}, {Kind: api.RateTriangle, Every: api.MaxStep}, {Kind: api.RatePower, Every: 8, Total: 2}} {
			p.Schedule = c
			wantCheck(t, "a schedule", p, s, api.OK)
		}
		for _, n := range ends {
			p.Seed = n
			wantCheck(t, "a seed", p, s, api.OK)
		}
	}
}

// TestP2101Alone: each flaw by itself.
func TestP2101Alone(t *testing.T) {
	for _, w := range widths {
		for _, f := range flaws(w) {
			p, s := spoilt(w, f)
			wantCheck(t, f.name, p, s, f.e)
		}
	}
}

// TestP2101Order: of two flaws the one that is looked for first is told; what can be told apart by its error is.
func TestP2101Order(t *testing.T) {
	for _, w := range widths {
		apart := map[[2]int]int{}
		for _, f := range flaws(w) {
			for _, g := range flaws(w) {
				if f.look >= g.look {
					continue
				}
				p, s := spoilt(w, g, f)
				wantCheck(t, f.name+", "+g.name, p, s, f.e)
				if f.e != g.e {
					apart[[2]int{f.look, g.look}]++
				}
			}
		}
		for _, looks := range [][2]int{{lookFits, lookInits}, {lookInits, lookRule}, {lookInits, lookRate}, {lookFits, lookRule}, {lookFits, lookRate}, {lookFits, lookBatch}, {lookInits, lookBatch}, {lookRule, lookBatch}, {lookRate, lookBatch}} {
			if apart[looks] == 0 {
				t.Errorf("nothing tells the looks %v apart", looks)
			}
		}
	}
}

// TestP2101Inits: of several Inits that can't be made the first one's error is told.
func TestP2101Inits(t *testing.T) {
	for _, w := range widths {
		none := api.Init{Kind: api.InitConst, A: api.NaN}
		odd := api.Init{Kind: api.InitUniform, A: bitsOf(2), B: bitsOf(1)}
		for first := range 4 {
			for second := first + 1; second < 4; second++ {
				p, s := spoilt(w)
				lay := func(at int, x api.Init) { p.Inits[at].Kind, p.Inits[at].A, p.Inits[at].B = x.Kind, x.A, x.B }
				lay(first, none)
				lay(second, odd)
				wantCheck(t, "no number ahead", p, s, api.ErrNaN)
				lay(first, odd)
				lay(second, none)
				wantCheck(t, "no number behind", p, s, api.ErrArg)
			}
		}
	}
}

// TestP2101Widths: a rule that is none of width 32 alone is refused wherever a parameter has that width, and nowhere else.
func TestP2101Widths(t *testing.T) {
	r := rand.New(rand.NewSource(1))
	for _, f := range narrowRules() {
		for _, w := range widths {
			p, s := linear(w), api.Set{X: some(r, 3, 1, w), Y: some(r, 3, 1, w)}
			f(&p.Rule)
			e := api.OK
			if w == 32 {
				e = api.ErrRule
			}
			wantCheck(t, "one width", p, s, e)
			// The last of its parameters is of the other width.
			p.Tape.Nodes = append(p.Tape.Nodes, param(2, 1, 1, otherOf(w)))
			p.Inits = append(p.Inits, api.Init{Rows: 1, Cols: 1, Width: otherOf(w)})
			wantCheck(t, "both widths", p, s, api.ErrRule)
			q := bare(w)
			f(&q.Rule)
			wantCheck(t, "no parameter", q, api.Set{X: some(r, 3, 2, w), Y: some(r, 3, 2, w)}, api.OK)
		}
	}
}

// TestP2101Bare: a plan needs no parameter; its rule is not looked at then, all else is.
func TestP2101Bare(t *testing.T) {
	r := rand.New(rand.NewSource(2))
	for _, w := range widths {
		p, s := bare(w), api.Set{X: some(r, 4, 2, w), Y: some(r, 4, 2, w)}
		wantCheck(t, "no parameter", p, s, api.OK)
		p.Rule = api.Rule{Kind: 99, Momentum: api.NaN, Norm: api.Inf}
		wantCheck(t, "no parameter, no rule", p, s, api.OK)
		q := p
		q.Inits = []api.Init{{Rows: 1, Cols: 1, Width: w}}
		wantCheck(t, "an Init", q, s, api.ErrParam)
		q = p
		q.Schedule.Kind = 6
		wantCheck(t, "no schedule", q, s, api.ErrRule)
		q.Schedule.Kind, q.Batch = 0, 0
		wantCheck(t, "no batch", q, s, api.ErrArg)
	}
}

// TestP2101Many: as many parameters as a tape may have.
func TestP2101Many(t *testing.T) {
	r := rand.New(rand.NewSource(3))
	for _, w := range widths {
		nodes := []api.Node{input(0, 1, 1, w), input(1, 1, 1, w), takes(api.OpMul, 0, 1)}
		for i := range api.MaxParams {
			nodes = append(nodes, param(i, 1, 1+i, w))
		}
		p, s := planOf(2, 2, nodes...), api.Set{X: some(r, 2, 1, w), Y: some(r, 2, 1, w)}
		wantCheck(t, "64 parameters", p, s, api.OK)
		p.Inits[63].A = 1
		wantCheck(t, "the last one", p, s, api.ErrArg)
		p = planOf(2, 2, append(nodes, param(64, 1, 1, w))...)
		p.Inits = append(p.Inits, api.Init{Rows: 1, Cols: 1, Width: w})
		wantCheck(t, "65 parameters", p, s, api.ErrParam)
	}
}

// TestP2101Ends: ints at their ends, wherever they may stand.
func TestP2101Ends(t *testing.T) {
	for _, w := range widths {
		for _, n := range ends {
			for _, spoil := range []func(p *api.Plan, s *api.Set){
				func(p *api.Plan, s *api.Set) { p.Out = n },
				func(p *api.Plan, s *api.Set) { p.Loss = n },
				func(p *api.Plan, s *api.Set) { p.Batch = n },
				func(p *api.Plan, s *api.Set) {
					p.Rule = api.Rule{Kind: n, Momentum: n, Beta: n, Eps: n, Decay: n, Clip: n, Norm: n}
				},
				func(p *api.Plan, s *api.Set) {
					p.Schedule = api.Schedule{Kind: n, Base: n, Factor: n, Warm: n, Every: n, Total: n}
				},
				func(p *api.Plan, s *api.Set) { p.Schedule.Warm = n },
				func(p *api.Plan, s *api.Set) { p.Inits[1] = api.Init{Kind: n, Rows: n, Cols: n, Width: n, A: n, B: n} },
				func(p *api.Plan, s *api.Set) { p.Inits[1].A = n },
				func(p *api.Plan, s *api.Set) { s.X.Rows, s.Y.Rows = n, n },
				func(p *api.Plan, s *api.Set) { s.X = matrix(n, n, n, n) },
				func(p *api.Plan, s *api.Set) { p.Tape.Nodes[4] = api.Node{Op: n, In: []int{n}, A: n, B: n} },
			} {
				p, s := spoilt(w, flaw{spoil: spoil})
				wantCheck(t, "an end", p, s, checkOf(p, s))
				wantNoState(t, "an end", p, s, checkOf(p, s))
			}
		}
	}
}

// wantNoState wants all calls that take a plan and a set to tell what Check does, if that is an error.
func wantNoState(t *testing.T, what string, p api.Plan, s api.Set, e api.Errno) {
	t.Helper()
	if e == api.OK {
		return
	}
	x := api.State{Step: -1}
	if got, f := train.New(p, s); !sameState(got, api.State{}) || f != e {
		t.Errorf("%s: New: %v, %v, want %v", what, got, f, e)
	}
	if f := train.Is(p, s, x); f != e {
		t.Errorf("%s: Is: %v, want %v", what, f, e)
	}
	if rows, f := train.Rows(p, s, x); len(rows) > 0 || f != e {
		t.Errorf("%s: Rows: %v, %v, want %v", what, rows, f, e)
	}
	wantRefused(t, what+": Apply", made(train.Apply(p, s, x, api.Part{})), api.Where{}, e)
	wantRefused(t, what+": Step", made(train.Step(p, s, x)), api.Where{}, e)
	wantRefused(t, what+": Run", ran(train.Run(p, s, x, 2)), api.Where{}, e)
}

// TestP2101Calls: each flaw is told by all calls, ahead of what is wrong with a state.
func TestP2101Calls(t *testing.T) {
	for _, w := range widths {
		for _, f := range flaws(w) {
			p, s := spoilt(w, f)
			wantNoState(t, f.name, p, s, f.e)
		}
	}
}
