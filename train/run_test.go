package train_test

import (
	"math/rand"
	"slices"
	"testing"

	"pupil/api"
	"pupil/train"
)

// TestP2107Refused: steps that can't be counted, ahead of all else; then what Is refuses. Nothing is told beside it.
func TestP2107Refused(t *testing.T) {
	for _, w := range widths {
		p, s, x := model(t, w)
		bad := cloned(x)
		bad.Batch = 2
		none := p
		none.Batch = 0
		for _, c := range []struct {
			p api.Plan
			x api.State
			e api.Errno
		}{{p, x, api.OK}, {p, bad, api.ErrState}, {none, x, api.ErrArg}, {none, bad, api.ErrArg}, {api.Plan{}, api.State{}, api.ErrNode}} {
			for _, steps := range []int{-1, -2, lowest} {
				wantRefused(t, "below 0", ran(train.Run(c.p, s, c.x, steps)), api.Where{}, api.ErrArg)
			}
			for _, steps := range []int{api.MaxList + 1, api.MaxList + 2, highest} {
				wantRefused(t, "too many", ran(train.Run(c.p, s, c.x, steps)), api.Where{}, api.ErrLong)
			}
			for _, steps := range []int{0, 1, 3, api.MaxList} {
				if c.e != api.OK {
					wantRefused(t, "no state", ran(train.Run(c.p, s, c.x, steps)), api.Where{}, c.e)
				}
			}
		}
	}
}

// TestP2107Steps: runs of several steps, over the ends of epochs, are Step that often.
func TestP2107Steps(t *testing.T) {
	r := rand.New(rand.NewSource(2107))
	for _, w := range widths {
		for _, kind := range kinds {
			p, s := subject(w)
			p.Rule = ruleOf(kind)
			far := moved(p, s, begun(t, p, s), 5)
			far.Params = strayed(r, far).Params // What the rule keeps is as it was: with anything there it might be refused.
			for _, from := range []api.State{begun(t, p, s), far} {
				x := from
				var traces []api.Trace
				for steps := range 9 {
					got := ran(train.Run(p, s, from, steps))
					want(t, "Step that often", got, told{state: x, traces: traces})
					if steps%4 == 0 {
						want(t, "the words", got, ran(runOf(p, s, from, steps)))
					}
					y, trace, _, e := train.Step(p, s, x)
					if e != api.OK {
						t.Fatal(e)
					}
					x, traces = y, append(traces, trace)
				}
			}
		}
	}
}

// TestP2107None: a run of no steps tells the state that was handed in, whatever it is, also where no step could be made.
func TestP2107None(t *testing.T) {
	r := rand.New(rand.NewSource(1))
	for _, w := range widths {
		p, s, x := model(t, w)
		for range 5 {
			y := strayed(r, x)
			want(t, "a strayed state", ran(train.Run(p, s, y, 0)), told{state: y})
		}
		x.Rate, x.Loss = minusOf(64), minusOf(otherOf(w))
		want(t, "noughts below 0", ran(train.Run(p, s, x, 0)), told{state: x})
		last := moved(p, s, x, api.MaxStep)
		want(t, "the last state", ran(train.Run(p, s, last, 0)), told{state: last})
		q := stopping(w)
		set := setOf(w, rowKinds(w)[2])
		y := begun(t, q, set)
		want(t, "a row that stops", ran(train.Run(q, set, y, 0)), told{state: y})
	}
}

// TestP2107Stops: a refusal at the first step, and at later ones: the state and the traces ahead of it are told.
func TestP2107Stops(t *testing.T) {
	for _, w := range widths {
		p := stopping(w)
		p.Batch = 1
		seen := map[int]bool{}
		for _, k := range rowKinds(w)[2:] {
			for at := range 5 {
				l := slices.Repeat(rowKinds(w)[:1], 5)
				l[at] = k
				s := setOf(w, l...)
				x := begun(t, p, s)
				place := 0 // Which step of the first epoch has the row.
				for rows := []int{-1}; rows[0] != at; {
					rows, _ = train.Rows(p, s, moved(p, s, x, place))
					place++
				}
				place--
				where := k.where
				where.Row = at
				ahead := ran(train.Run(p, s, x, place))
				if ahead.e != api.OK || len(ahead.traces) != place || ahead.state.Step != place {
					t.Fatalf("%v", ahead)
				}
				for _, steps := range []int{place + 1, place + 2, 50, api.MaxList} {
					got := ran(train.Run(p, s, x, steps))
					want(t, "the refusal", got, told{state: ahead.state, traces: ahead.traces, where: where, e: k.e})
				}
				want(t, "the words", ran(train.Run(p, s, x, 50)), ran(runOf(p, s, x, 50)))
				seen[place] = true
			}
		}
		if !seen[0] || len(seen) < 3 {
			t.Errorf("refusals at %v", seen)
		}
	}
}

// TestP2107Rules: refusals by the rate, by the norm and by the rule, at later steps.
func TestP2107Rules(t *testing.T) {
	for _, w := range widths {
		p, s := linear(w), api.Set{X: vals(2, 1, w, 1, 1), Y: vals(2, 1, w, 1, 1)}
		p.Batch = 1
		p.Schedule = api.Schedule{Kind: api.RateSteps, Base: bitsOf(1), Factor: bitsOf(0x1p300), Every: 2}
		x := begun(t, p, s)
		got := ran(train.Run(p, s, x, 100))
		want(t, "the words", got, ran(runOf(p, s, x, 100)))
		if w == 64 && (len(got.traces) != 8 || got.e != api.ErrInf || got.where != (api.Where{})) { // 2^1200 is no rate.
			t.Errorf("%v", got)
		}
		if w == 32 && (len(got.traces) != 2 || got.e != api.ErrArg || got.where != (api.Where{Kind: api.InParam})) { // 2^300 is no binary32.
			t.Errorf("%v", got)
		}
		p.Schedule = api.Schedule{Base: bitsOf(1)}
		p.Rule = api.Rule{Kind: api.RuleMomentum, Momentum: bitsOf(0.5)}
		x = begun(t, p, s)
		x.Params[1].Bits[0] = pattern(value(greatestOf(w), w)/-2, w)
		x.Slots[1][0].Bits[0] = greatestOf(w)
		// Half of the greatest is taken, which is just the least one; then a quarter, which is too much.
		got = ran(train.Run(p, s, x, 5))
		want(t, "a parameter", got, ran(runOf(p, s, x, 5)))
		if len(got.traces) != 1 || got.where != (api.Where{Kind: api.InParam, Node: 1}) || got.e != api.ErrInf {
			t.Errorf("%v", got)
		}
	}
}

// TestP2107End: a run that comes to the last step ends there.
func TestP2107End(t *testing.T) {
	for _, w := range widths {
		p, s, x := model(t, w)
		for short := range 4 {
			y := moved(p, s, x, api.MaxStep-short)
			all := ran(train.Run(p, s, y, short))
			if all.e != api.OK || len(all.traces) != short || all.state.Step != api.MaxStep {
				t.Errorf("%d short: %v", short, all)
			}
			for _, more := range []int{1, 2, api.MaxList - short} {
				want(t, "beyond", ran(train.Run(p, s, y, short+more)), told{state: all.state, traces: all.traces, e: api.ErrLong})
			}
		}
	}
}

// TestP2107Most: as many steps as there may be.
func TestP2107Most(t *testing.T) {
	p, s := bare(64), api.Set{X: vals(1, 2, 64, 1, 2), Y: vals(1, 2, 64, 1, 1)}
	p.Schedule = api.Schedule{Kind: api.RateLinear, Base: bitsOf(1), Total: 1 << 20}
	x, traces, where, e := train.Run(p, s, begun(t, p, s), api.MaxList)
	if e != api.OK || where != (api.Where{}) || len(traces) != api.MaxList || x.Step != api.MaxList || x.Epoch != api.MaxList || x.Batch != 0 {
		t.Fatalf("%v, %d traces, %v, %v", x, len(traces), where, e)
	}
	for i, trace := range traces {
		speed := bitsOf(float64(1<<20-i) / (1 << 20))
		if trace.Step != i || trace.Rate != speed || trace.Loss != bitsOf(3) {
			t.Fatalf("%d: %v", i, trace)
		}
	}
	if last := traces[api.MaxList-1]; last.Sum != sumOf(x) {
		t.Errorf("%v", last)
	}
}

// TestP2111Parts: a steps and then b are a + b, to the bit.
func TestP2111Parts(t *testing.T) {
	r := rand.New(rand.NewSource(2111))
	for _, w := range widths {
		for _, kind := range kinds {
			p, s := subject(w)
			p.Rule, p.Seed = ruleOf(kind), r.Int()
			p.Schedule = api.Schedule{Kind: api.RateTriangle, Base: bitsOf(0.25), Factor: bitsOf(0.01), Every: 5, Warm: 3}
			x := begun(t, p, s)
			all := ran(train.Run(p, s, x, 12))
			for a := range 13 {
				one := ran(train.Run(p, s, x, a))
				two := ran(train.Run(p, s, one.state, 12-a))
				want(t, "in two runs", told{two.state, slices.Concat(one.traces, two.traces), two.where, two.e}, all)
			}
			y, traces := x, []api.Trace(nil)
			for left := 12; left > 0; {
				n := r.Intn(left + 1)
				z, l, _, e := train.Run(p, s, y, n)
				if e != api.OK {
					t.Fatal(e)
				}
				y, traces, left = z, append(traces, l...), left-n
			}
			want(t, "in any runs", told{state: y, traces: traces}, all)
		}
	}
}

// TestP2111Replay: a plan, a set and a seed make one row of states; another seed makes another.
func TestP2111Replay(t *testing.T) {
	for _, w := range widths {
		p, s := subject(w)
		p.Rule = ruleOf(api.RuleAdam)
		seen := map[int]int{}
		for seed := range 6 {
			p.Seed = seed
			first := ran(train.Run(p, s, begun(t, p, s), 8))
			want(t, "again", ran(train.Run(clonedPlan(p), clonedSet(s), begun(t, p, s), 8)), first)
			for _, trace := range first.traces {
				seen[trace.Sum]++
			}
		}
		if len(seen) != 48 {
			t.Errorf("%d states", len(seen))
		}
	}
}
