package train_test

import (
	"math/rand"
	"slices"
	"testing"

	"pupil/api"
	"pupil/part"
	"pupil/train"
)

// seen is all that Eval tells.
type seen struct {
	loss  int
	outs  []api.Matrix
	where api.Where
	e     api.Errno
}

func evaluated(loss int, outs []api.Matrix, where api.Where, e api.Errno) seen {
	return seen{loss, outs, where, e}
}

func (a seen) same(b seen) bool {
	return a.loss == b.loss && sameAll(a.outs, b.outs) && a.where == b.where && a.e == b.e
}

// wantEval wants Eval to tell what the chapter says, and hands that on.
func wantEval(t *testing.T, what string, p api.Plan, params []api.Matrix, s api.Set, rows []int) seen {
	t.Helper()
	words := evaluated(evalOf(p, params, s, rows))
	if got := evaluated(train.Eval(p, params, s, rows)); !got.same(words) {
		t.Errorf("%s: Eval: %x, want %x", what, got, words)
	}
	return words
}

// wantBlind wants Eval to refuse.
func wantBlind(t *testing.T, what string, p api.Plan, params []api.Matrix, s api.Set, rows []int, where api.Where, e api.Errno) {
	t.Helper()
	if got := evaluated(train.Eval(p, params, s, rows)); !got.same(seen{where: where, e: e}) {
		t.Errorf("%s: Eval: %x, want %v, %v", what, got, where, e)
	}
}

// TestP2108Values: the mean of the losses and the values of Out, of all kinds of rows, in both widths; the loss is of its own.
func TestP2108Values(t *testing.T) {
	r := rand.New(rand.NewSource(2108))
	for _, w := range widths {
		for range 30 {
			count := 1 + r.Intn(20)
			p, s := mixed(w), mixedSet(r, count, w)
			x := strayed(r, begun(t, p, s))
			rows := r.Perm(count)[:1+r.Intn(count)]
			slices.Sort(rows)
			p.Out = r.Intn(len(p.Tape.Nodes))
			got := wantEval(t, "some rows", p, x.Params, s, rows)
			if got.e != api.OK || len(got.outs) != len(rows) {
				t.Errorf("%v", got)
			}
			whole, _, _ := part.Of(p, x.Params, s, rows)
			if loss, _, _, _ := part.Close(p, whole); loss != got.loss {
				t.Errorf("Close tells the loss %x, Eval %x", loss, got.loss)
			}
		}
	}
}

// TestP2108Hand: a linear plan by hand, of whole numbers.
func TestP2108Hand(t *testing.T) {
	for _, w := range widths {
		p, s := linear(w), api.Set{X: vals(4, 1, w, 1, 2, 4, 8), Y: vals(4, 1, w, 1, 1, 1, 3)}
		params := []api.Matrix{vals(1, 1, w, 3), vals(1, 1, w, 10)}
		for _, c := range []struct {
			rows []int
			loss float64
			outs []float64
		}{{[]int{0}, 13, []float64{3}}, {[]int{3}, 54, []float64{24}}, {[]int{0, 2}, 17.5, []float64{3, 12}}, {upTo(4), 26.25, []float64{3, 6, 12, 24}}} {
			var outs []api.Matrix
			for _, f := range c.outs {
				outs = append(outs, vals(1, 1, w, f))
			}
			if got := evaluated(train.Eval(p, params, s, c.rows)); !got.same(seen{loss: pattern(c.loss, w), outs: outs}) {
				t.Errorf("rows %v: %x", c.rows, got)
			}
		}
	}
}

// TestP2108Rounded: the mean is rounded once, from the exact sum; sums that no float has are no hindrance.
func TestP2108Rounded(t *testing.T) {
	for _, w := range widths {
		great, least := value(greatestOf(w), w), value(1, w)
		p := linear(w)
		params := []api.Matrix{vals(1, 1, w, 1), vals(1, 1, w, 0)}
		for _, l := range [][]float64{{great, great}, {great, great, great, great, great}, {-great, -great, -great}, {great, great, -great}, {great, 1, -great}, {1, least, -1}, {least, 0, 0}, {least, least, 0}, {1, 1, 2}, {-least, 0}, {0, -0.0}, {1e20, 3, -1e20, 4}} {
			s := api.Set{X: vals(len(l), 1, w, l...), Y: vals(len(l), 1, w, l...)}
			if got := wantEval(t, "losses", p, params, s, upTo(len(l))); got.e != api.OK {
				t.Errorf("%v: %v", l, got)
			}
		}
		s := api.Set{X: matrix(2, 1, w, minusOf(w), minusOf(w)), Y: vals(2, 1, w, 0, 0)}
		if got := wantEval(t, "noughts below 0", p, params, s, []int{0, 1}); got.loss != 0 {
			t.Errorf("%x", got)
		}
	}
}

// TestP2108Stops: a row that stops, and several: the least one is told. What stops adjoints alone stops nothing here.
func TestP2108Stops(t *testing.T) {
	for _, w := range widths {
		all := rowKinds(w)
		p := stopping(w)
		params := begun(t, p, setOf(w, all...)).Params
		for _, k := range all {
			for _, other := range all {
				l := []row{all[0], k, all[1], other, all[0]}
				s := setOf(w, l...)
				wantEval(t, "the words", p, params, s, upTo(5))
				stop := -1
				for i, x := range l {
					if x.where.Kind == api.InValue && stop < 0 {
						stop = i
					}
				}
				if stop < 0 {
					if got := evaluated(train.Eval(p, params, s, upTo(5))); got.e != api.OK || len(got.outs) != 5 {
						t.Errorf("%v", got)
					}
					continue
				}
				where := l[stop].where
				where.Row = stop
				wantBlind(t, "a row that stops", p, params, s, upTo(5), where, l[stop].e)
				wantBlind(t, "the same without those ahead of it", p, params, s, upTo(5)[stop:], where, l[stop].e)
				if got := evaluated(train.Eval(p, params, s, []int{0, 2, 4})); got.e != api.OK {
					t.Errorf("without it: %v", got)
				}
			}
		}
	}
}

// TestP2108Behind: a node behind the loss, and behind Out, stops a row as well.
func TestP2108Behind(t *testing.T) {
	for _, w := range widths {
		p := linear(w)
		p.Tape.Nodes = append(p.Tape.Nodes, takes(api.OpSqrt, 1))
		s := api.Set{X: vals(3, 1, w, 1, -1, 4), Y: vals(3, 1, w, 1, 1, 1)}
		params := begun(t, p, s).Params
		wantBlind(t, "a root", p, params, s, upTo(3), api.Where{Kind: api.InValue, Row: 1, Node: 7}, api.ErrNaN)
		if got := wantEval(t, "without it", p, params, s, []int{0, 2}); got.e != api.OK {
			t.Errorf("%v", got)
		}
	}
}

// TestP2108Fits: what Fits refuses is told; what else a plan says, and a state's form, is not looked at.
func TestP2108Fits(t *testing.T) {
	for _, w := range widths {
		p, s := subject(w)
		params := begun(t, p, s).Params
		right := evaluated(train.Eval(p, params, s, []int{0, 3}))
		if right.e != api.OK {
			t.Fatal(right)
		}
		for _, f := range flaws(w) {
			q, set := spoilt(w, f)
			if f.look == lookFits {
				wantBlind(t, f.name, q, params, set, []int{0, 3}, api.Where{}, f.e)
				wantBlind(t, f.name+", no parameters", q, nil, set, []int{0, 3}, api.Where{}, f.e)
				wantBlind(t, f.name+", no rows", q, params, set, nil, api.Where{}, f.e)
				continue
			}
			if got := evaluated(train.Eval(q, params, set, []int{0, 3})); !got.same(right) {
				t.Errorf("%s: %v, want %v", f.name, got, right)
			}
		}
	}
}

// TestP2108Params: parameters that are none, ahead of rows that are none.
func TestP2108Params(t *testing.T) {
	for _, w := range widths {
		p, s := subject(w)
		params := begun(t, p, s).Params
		for _, rows := range [][]int{{0, 1}, nil, {1, 0}, upTo(300)} {
			for _, l := range [][]api.Matrix{nil, params[:3], append(copies(params), params[0])} {
				wantBlind(t, "another number", p, l, s, rows, api.Where{}, api.ErrParam)
			}
			for i, m := range params {
				inf, none, other, turned := copies(params), copies(params), copies(params), copies(params)
				inf[i].Bits[0], none[i].Bits[len(m.Bits)-1] = infinityOf(m.Width), infinityOf(m.Width)+1
				other[i] = vals(m.Rows, m.Cols, otherOf(m.Width), make([]float64, len(m.Bits))...)
				turned[i] = vals(1, len(m.Bits)+1, m.Width, make([]float64, len(m.Bits)+1)...)
				wantBlind(t, "infinite", p, inf, s, rows, api.Where{}, api.ErrInf)
				wantBlind(t, "no number", p, none, s, rows, api.Where{}, api.ErrNaN)
				wantBlind(t, "another width", p, other, s, rows, api.Where{}, api.ErrWidth)
				wantBlind(t, "another shape", p, turned, s, rows, api.Where{}, api.ErrShape)
				bad := copies(params)
				bad[i].Bits = bad[i].Bits[1:]
				wantBlind(t, "not in form", p, bad, s, rows, api.Where{}, api.ErrShape)
				bad[i] = api.Matrix{}
				wantBlind(t, "nothing", p, bad, s, rows, api.Where{}, api.ErrWidth)
			}
			// The first of two is told.
			two := copies(params)
			two[1].Bits[0], two[3].Bits[0] = infinityOf(two[1].Width)+1, infinityOf(two[3].Width)
			wantBlind(t, "two", p, two, s, rows, api.Where{}, api.ErrNaN)
		}
	}
}

// TestP2108Rows: rows that are none; as many as a batch may have.
func TestP2108Rows(t *testing.T) {
	r := rand.New(rand.NewSource(3))
	for _, w := range widths {
		p := linear(w)
		s := api.Set{X: some(r, 300, 1, w), Y: some(r, 300, 1, w)}
		params := begun(t, p, s).Params
		for _, c := range []struct {
			rows []int
			e    api.Errno
		}{{nil, api.ErrNone}, {[]int{}, api.ErrNone}, {upTo(257), api.ErrLong}, {make([]int, 1000), api.ErrLong}, {[]int{0, 0}, api.ErrRow}, {[]int{2, 1}, api.ErrRow}, {[]int{-1}, api.ErrRow}, {[]int{-1, 0}, api.ErrRow}, {[]int{300}, api.ErrRow}, {[]int{0, 300}, api.ErrRow}, {[]int{lowest}, api.ErrRow}, {[]int{0, highest}, api.ErrRow}} {
			wantBlind(t, "rows", p, params, s, c.rows, api.Where{}, c.e)
			wantEval(t, "the words", p, params, s, c.rows)
		}
		for _, rows := range [][]int{upTo(256), upTo(300)[44:], {299}, {0, 299}} {
			if got := wantEval(t, "right rows", p, params, s, rows); got.e != api.OK {
				t.Errorf("%v", got)
			}
		}
	}
}

// TestP2108Ends: Out may be any node, the loss itself, an input, a parameter.
func TestP2108Ends(t *testing.T) {
	for _, w := range widths {
		p, s := linear(w), api.Set{X: vals(2, 1, w, 5, 6), Y: vals(2, 1, w, 7, 8)}
		params := []api.Matrix{vals(1, 1, w, 2), vals(1, 1, w, 3)}
		for out, l := range [][2]float64{{3, 3}, {5, 6}, {7, 8}, {2, 2}, {10, 12}, {21, 24}, {31, 36}} {
			p.Out = out
			want := seen{loss: pattern(33.5, w), outs: []api.Matrix{vals(1, 1, w, l[0]), vals(1, 1, w, l[1])}}
			if got := evaluated(train.Eval(p, params, s, []int{0, 1})); !got.same(want) {
				t.Errorf("Out %d: %x", out, got)
			}
		}
		p.Out, p.Loss = 1, 2
		if got := evaluated(train.Eval(p, params, s, []int{1})); !got.same(seen{loss: pattern(8, w), outs: []api.Matrix{vals(1, 1, w, 6)}}) {
			t.Errorf("Loss 2: %x", got)
		}
	}
}

// TestP2108Bare: a plan without a parameter.
func TestP2108Bare(t *testing.T) {
	for _, w := range widths {
		p, s := bare(w), api.Set{X: vals(2, 2, w, 1, 2, 3, 4), Y: vals(2, 2, w, 5, 6, 7, 8)}
		want := seen{loss: pattern(35, w), outs: []api.Matrix{vals(1, 2, w, 5, 12), vals(1, 2, w, 21, 32)}}
		if got := evaluated(train.Eval(p, nil, s, []int{0, 1})); !got.same(want) {
			t.Errorf("%x", got)
		}
		wantBlind(t, "a parameter", p, []api.Matrix{vals(1, 1, w, 1)}, s, []int{0}, api.Where{}, api.ErrParam)
	}
}

// TestP2108Mean: a mean that is not finite is told at the node Loss. No rows have such: the mean of finite floats lies between them.
func TestP2108Mean(t *testing.T) {
	for _, w := range widths {
		for _, sum := range []api.Acc{{Plus: true}, {Minus: true}, {None: true}, times(greatestOf(w), w, 3)} {
			loss, err := train.Mean(sum, 2, w, 9)
			where, e := train.Told(err)
			if loss != 0 || where != (api.Where{Kind: api.InLoss, Node: 9}) || e != api.ErrInf {
				t.Errorf("%v: %x, %v, %v", sum, loss, where, e)
			}
		}
		if loss, err := train.Mean(times(greatestOf(w), w, 3), 3, w, 9); loss != greatestOf(w) || err != nil {
			t.Errorf("%x, %v", loss, err)
		}
	}
}
