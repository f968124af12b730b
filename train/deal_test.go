package train_test

import (
	"math/rand"
	"slices"
	"testing"

	"pupil/api"
	"pupil/data"
	"pupil/part"
	"pupil/train"
)

// dealt parts rows into so many lists at random, none empty, each rising.
func dealt(r *rand.Rand, rows []int, parts int) [][]int {
	l := make([][]int, parts)
	for i, k := range r.Perm(len(rows)) {
		to := i
		if i >= parts {
			to = r.Intn(parts)
		}
		l[to] = append(l[to], rows[k])
	}
	for _, some := range l {
		slices.Sort(some)
	}
	return l
}

// sharded parts rows as workers get them.
func sharded(rows []int, workers int) [][]int {
	shards, _ := data.Shards(len(rows), workers)
	var l [][]int
	for _, x := range shards {
		if x[0] < x[1] {
			l = append(l, rows[x[0]:x[1]])
		}
	}
	return l
}

// joined tells what lists of rows tell, joined in any order, any two of those that there are, until one is left.
func joined(t *testing.T, r *rand.Rand, p api.Plan, s api.Set, x api.State, lists [][]int) api.Part {
	t.Helper()
	var l []api.Part
	for _, rows := range lists {
		told, where, e := part.Of(p, x.Params, s, rows)
		if e != api.OK {
			t.Fatalf("Of %v: %v, %v", rows, where, e)
		}
		l = append(l, told)
	}
	for len(l) > 1 {
		r.Shuffle(len(l), func(a, b int) { l[a], l[b] = l[b], l[a] })
		whole, e := part.Join(l[0], l[1])
		if e != api.OK {
			t.Fatalf("Join: %v", e)
		}
		l = append(l[2:], whole)
	}
	return l[0]
}

// TestP2112Dealt: whichever way a step's rows are dealt out, and joined, Apply is Step.
func TestP2112Dealt(t *testing.T) {
	r := rand.New(rand.NewSource(2112))
	for _, w := range widths {
		for _, kind := range kinds {
			p, s := mixed(w), mixedSet(r, 23, w)
			p.Rule, p.Batch, p.Seed = ruleOf(kind), 9, r.Int()
			x := begun(t, p, s)
			for range 4 {
				rows, _ := train.Rows(p, s, x)
				step := made(train.Step(p, s, x))
				lists := [][][]int{{rows}, dealt(r, rows, len(rows)), dealt(r, rows, 2), dealt(r, rows, 3), sharded(rows, 2), sharded(rows, 4), sharded(rows, 16)}
				for _, l := range lists {
					want(t, "dealt out", made(train.Apply(p, s, x, joined(t, r, p, s, x, l))), step)
				}
				if step.e != api.OK {
					t.Fatal(step)
				}
				x = step.state
			}
		}
	}
}

// TestP2112Exact: losses and gradients whose sums no floats would tell.
func TestP2112Exact(t *testing.T) {
	r := rand.New(rand.NewSource(1))
	for _, w := range widths {
		great := value(greatestOf(w), w)
		p := linear(w)
		p.Batch, p.Schedule.Base = 8, bitsOf(0x1p-20)
		for _, l := range [][]float64{{great, great, great, 1, -great, -great, 2, 3}, {1, great, -great, 1, great, -great, 1, 1}, {value(1, w), 1, -1, 3 * value(1, w), 0, 0, 0, 0}} {
			s := api.Set{X: vals(8, 1, w, l...), Y: vals(8, 1, w, l...)}
			slices.Reverse(s.Y.Bits)
			x := begun(t, p, s)
			step := made(train.Step(p, s, x))
			for range 6 {
				want(t, "dealt out", made(train.Apply(p, s, x, joined(t, r, p, s, x, dealt(r, upTo(8), 1+r.Intn(8))))), step)
			}
			if step.e != api.OK {
				t.Errorf("%v", step)
			}
		}
	}
}

// TestP2112Refused: a step that the closing or the rule refuses is refused alike, however its rows are dealt out.
func TestP2112Refused(t *testing.T) {
	r := rand.New(rand.NewSource(2))
	for _, w := range widths {
		great := value(greatestOf(w), w)
		p := linear(w)
		p.Batch, p.Schedule.Base = 4, bitsOf(2)
		s := api.Set{X: vals(4, 1, w, 1, 1, 1, 1), Y: vals(4, 1, w, great, great, great, great)}
		x := begun(t, p, s)
		for range 6 {
			whole := joined(t, r, p, s, x, dealt(r, upTo(4), 1+r.Intn(4)))
			wantRefused(t, "the rule", made(train.Apply(p, s, x, whole)), api.Where{Kind: api.InParam, Node: 1}, api.ErrInf)
		}
		wantRefused(t, "the rule", made(train.Step(p, s, x)), api.Where{Kind: api.InParam, Node: 1}, api.ErrInf)
	}
}

// TestP2112Training: a whole training whose steps are all dealt out is that of one machine.
func TestP2112Training(t *testing.T) {
	r := rand.New(rand.NewSource(3))
	for _, w := range widths {
		p, s := mixed(w), mixedSet(r, 10, w)
		p.Rule, p.Batch = ruleOf(api.RuleAdam), 4
		x := begun(t, p, s)
		all := ran(train.Run(p, s, x, 9))
		var traces []api.Trace
		for range 9 {
			rows, _ := train.Rows(p, s, x)
			y, trace, _, e := train.Apply(p, s, x, joined(t, r, p, s, x, dealt(r, rows, 1+r.Intn(len(rows)))))
			if e != api.OK {
				t.Fatal(e)
			}
			x, traces = y, append(traces, trace)
		}
		want(t, "many workers", told{state: x, traces: traces}, all)
	}
}

// TestP2112Missing: parts that have not all of the step's rows, or those of another step, are refused.
func TestP2112Missing(t *testing.T) {
	r := rand.New(rand.NewSource(4))
	p, s := mixed(64), mixedSet(r, 10, 64)
	p.Batch = 4
	x := begun(t, p, s)
	rows, _ := train.Rows(p, s, x)
	for i := range rows {
		some := slices.Delete(slices.Clone(rows), i, i+1)
		wantRefused(t, "a row less", made(train.Apply(p, s, x, joined(t, r, p, s, x, [][]int{some}))), api.Where{}, api.ErrRow)
	}
	next := moved(p, s, x, 1)
	wantRefused(t, "another step's", made(train.Apply(p, s, next, joined(t, r, p, s, x, [][]int{rows}))), api.Where{}, api.ErrRow)
	wantRefused(t, "all rows", made(train.Apply(p, s, x, joined(t, r, p, s, x, [][]int{upTo(10)}))), api.Where{}, api.ErrRow)
}
