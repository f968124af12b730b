package train_test

import (
	"math"
	"math/rand"
	"testing"

	"pupil/api"
	"pupil/train"
)

// stain is something for which a state is none.
type stain struct {
	name  string
	spoil func(x *api.State)
}

// model is a state of Adam's, behind four steps of three an epoch: the parameters have 3 by 2, 1 by 2, 1 by 1 and 2 by 2 elements, and the loss and the last two are of the other width.
func model(t *testing.T, width int) (api.Plan, api.Set, api.State) {
	t.Helper()
	p, s := subject(width)
	p.Rule = ruleOf(api.RuleAdam)
	return p, s, behind(t, p, s, 4)
}

// countStains are numbers of steps, epochs and batches that don't belong together.
func countStains() []stain {
	var l []stain
	of := func(name string, step, epoch, batch int) {
		l = append(l, stain{name, func(x *api.State) { x.Step, x.Epoch, x.Batch = step, epoch, batch }})
	}
	of("one step less", 3, 1, 1)
	of("one step more", 5, 1, 1)
	of("one epoch less", 4, 0, 1)
	of("one epoch more", 4, 2, 1)
	of("one batch less", 4, 1, 0)
	of("one batch more", 4, 1, 2)
	of("a batch that belongs to the next epoch", 4, 0, 4)
	of("a batch below 0", 4, 2, -2)
	of("a batch far below 0", 4, 5, -11)
	of("the end of an epoch", 3, 0, 3)
	of("a step below 0", -1, 0, -1)
	of("a step below 0, its epoch too", -1, -1, 2)
	of("a whole epoch below 0", -3, -1, 0)
	of("one step too many", api.MaxStep+1, (api.MaxStep+1)/3, (api.MaxStep+1)%3)
	of("far too many", highest, highest/3, highest%3)
	of("the least step", lowest, lowest/3, lowest%3)
	of("an epoch that wraps round", 4, 1+third, 1-2)
	of("an epoch that wraps round, below 0", 4, 1-third, 1+2)
	of("an epoch at its end", 4, highest, 4-wrapped(3, highest))
	of("an epoch at its other end", 4, lowest, 4-wrapped(3, lowest))
	for _, n := range ends {
		of("a step at an end", n, 1, 1)
		of("an epoch at an end", 4, n, 1)
		of("a batch at an end", 4, 1, n)
		of("all at an end", n, n, n)
	}
	return l
}

// third times 3 is 2 more than 2^64: an int that wraps round has come to 2.
const third = (1<<64 + 2) / 3

// wrapped is a product that wraps round.
func wrapped(a, b int) int { return a * b }

// listStains are parameters and slots that are too few, too many, or change places.
func listStains() []stain {
	return []stain{
		{"no parameters", func(x *api.State) { x.Params = nil }},
		{"a parameter less", func(x *api.State) { x.Params = x.Params[:3] }},
		{"a parameter more", func(x *api.State) { x.Params = append(x.Params, x.Params[3]) }},
		{"a parameter and its slots less", func(x *api.State) { x.Params, x.Slots = x.Params[:3], x.Slots[:3] }},
		{"a parameter and its slots more", func(x *api.State) {
			x.Params, x.Slots = append(x.Params, x.Params[3]), append(x.Slots, x.Slots[3])
		}},
		{"parameters that changed places", func(x *api.State) { x.Params[0], x.Params[1] = x.Params[1], x.Params[0] }},
		{"no slots", func(x *api.State) { x.Slots = nil }},
		{"a list of slots less", func(x *api.State) { x.Slots = x.Slots[:3] }},
		{"a list of slots more", func(x *api.State) { x.Slots = append(x.Slots, nil) }},
		{"slots that changed places", func(x *api.State) { x.Slots[0], x.Slots[3] = x.Slots[3], x.Slots[0] }},
		{"none of a parameter", func(x *api.State) { x.Slots[2] = nil }},
		{"a slot less", func(x *api.State) { x.Slots[1] = x.Slots[1][:2] }},
		{"a slot more", func(x *api.State) { x.Slots[1] = append(x.Slots[1], x.Slots[1][2]) }},
		{"a slot more of the last one", func(x *api.State) { x.Slots[3] = append(x.Slots[3], x.Slots[3][0]) }},
		{"the last two slots changed places", func(x *api.State) { x.Slots[0][1], x.Slots[0][2] = x.Slots[0][2], x.Slots[0][1] }},
		{"nothing at all", func(x *api.State) { *x = api.State{} }},
	}
}

// matrixStains are ways in which a matrix is not such as is wanted.
func matrixStains(m api.Matrix) map[string]api.Matrix {
	turned, wider, narrower := copied(m), copied(m), copied(m)
	turned.Rows, turned.Cols = m.Cols, m.Rows+1
	wider.Cols, wider.Bits = m.Cols+1, append(wider.Bits, make([]int, m.Rows)...)
	narrower.Rows, narrower.Bits = m.Rows-1, narrower.Bits[m.Cols:]
	other := vals(m.Rows, m.Cols, otherOf(m.Width), make([]float64, len(m.Bits))...)
	l := map[string]api.Matrix{
		"zero": {}, "not as long as it says": turned, "wider": wider, "narrower": narrower, "of the other width": other, "of no width": matrix(m.Rows, m.Cols, 16, m.Bits...),
		"too long": matrix(1, 4097, m.Width, make([]int, 4097)...), "of far too many": matrix(highest, highest, m.Width, m.Bits...), "below 0": matrix(-m.Rows, -m.Cols, m.Width, m.Bits...),
		"without its last": matrix(m.Rows, m.Cols, m.Width, m.Bits[:len(m.Bits)-1]...), "with one more": matrix(m.Rows, m.Cols, m.Width, append(copied(m).Bits, 0)...),
		"without any": matrix(m.Rows, m.Cols, m.Width),
	}
	if m.Rows != m.Cols {
		l["with rows and columns exchanged"] = matrix(m.Cols, m.Rows, m.Width, m.Bits...)
	}
	bad := notFinite(m.Width)
	if m.Width == 32 {
		bad = append(bad, -1, 1<<32, lowest, highest)
	}
	for i, b := range bad {
		for _, at := range []int{0, len(m.Bits) - 1} {
			x := copied(m)
			x.Bits[at] = b
			l["with what is not finite, "+string(rune('a'+i))+string(rune('0'+at))] = x
		}
	}
	return l
}

// placeStains lay these into each place where a matrix stands.
func placeStains(x api.State) []stain {
	var l []stain
	for i, m := range x.Params {
		for name, bad := range matrixStains(m) {
			l = append(l, stain{"a parameter " + name, func(x *api.State) { x.Params[i] = bad }})
		}
	}
	for i, slots := range x.Slots {
		for k, m := range slots {
			for name, bad := range matrixStains(m) {
				l = append(l, stain{"a slot " + name, func(x *api.State) { x.Slots[i][k] = bad }})
			}
		}
	}
	return l
}

// numberStains are losses of a width, and rates, that are none.
func numberStains(width int) []stain {
	var l []stain
	losses := notFinite(width)
	if width == 32 {
		losses = append(losses, -1, 1<<32, bitsOf(1), lowest, highest)
	}
	for _, b := range losses {
		l = append(l, stain{"a loss", func(x *api.State) { x.Loss = b }})
	}
	for _, b := range append(notFinite(64), bitsOf(-1), bitsOf(-math.SmallestNonzeroFloat64), bitsOf(-math.MaxFloat64), -1, highest) {
		l = append(l, stain{"a rate", func(x *api.State) { x.Rate = b }})
	}
	return l
}

func stains(x api.State, width int) []stain {
	l := countStains()
	for _, more := range [][]stain{listStains(), placeStains(x), numberStains(otherOf(width))} {
		l = append(l, more...)
	}
	return l
}

func wantIs(t *testing.T, what string, p api.Plan, s api.Set, x api.State, e api.Errno) {
	t.Helper()
	if f := isOf(p, s, x); f != e {
		t.Errorf("%s: the words say %v, not %v", what, f, e)
	}
	if f := train.Is(p, s, x); f != e {
		t.Errorf("%s: Is: %v, want %v", what, f, e)
	}
}

// TestP2103Stains: each thing that makes a state none, by itself.
func TestP2103Stains(t *testing.T) {
	for _, w := range widths {
		p, s, x := model(t, w)
		wantIs(t, "the state", p, s, x, api.OK)
		for _, c := range stains(x, w) {
			y := cloned(x)
			c.spoil(&y)
			wantIs(t, c.name, p, s, y, api.ErrState)
		}
	}
}

// TestP2103Calls: a state that is none is refused by all calls, with ErrState alone.
func TestP2103Calls(t *testing.T) {
	for _, w := range widths {
		p, s, x := model(t, w)
		for i, c := range stains(x, w) {
			if i%5 != 0 {
				continue
			}
			y := cloned(x)
			c.spoil(&y)
			if rows, e := train.Rows(p, s, y); len(rows) > 0 || e != api.ErrState {
				t.Errorf("%s: Rows: %v, %v", c.name, rows, e)
			}
			wantRefused(t, c.name+": Apply", made(train.Apply(p, s, y, api.Part{})), api.Where{}, api.ErrState)
			wantRefused(t, c.name+": Step", made(train.Step(p, s, y)), api.Where{}, api.ErrState)
			for _, steps := range []int{0, 1, api.MaxList} {
				wantRefused(t, c.name+": Run", ran(train.Run(p, s, y, steps)), api.Where{}, api.ErrState)
			}
		}
	}
}

// TestP2103Ahead: what is wrong with the plan or the set is told ahead of what is wrong with the state.
func TestP2103Ahead(t *testing.T) {
	for _, w := range widths {
		for _, f := range flaws(w) {
			p, s := spoilt(w, f)
			_, _, x := model(t, w)
			wantIs(t, f.name, p, s, x, f.e)
			x.Step = -1
			wantIs(t, f.name+" with another state", p, s, x, f.e)
			wantIs(t, f.name+" with no state", p, s, api.State{}, f.e)
		}
	}
}

// TestP2103Any: states that no training comes to are ones all the same.
func TestP2103Any(t *testing.T) {
	r := rand.New(rand.NewSource(2103))
	for _, w := range widths {
		p, s, x := model(t, w)
		for range 20 {
			wantIs(t, "a strayed state", p, s, strayed(r, x), api.OK)
		}
		for _, step := range []int{0, 1, 2, 3, 4, 5, 6, 1 << 20, api.MaxStep - 2, api.MaxStep - 1, api.MaxStep} {
			wantIs(t, "another step", p, s, moved(p, s, x, step), api.OK)
		}
		y := cloned(x)
		for i := range y.Params {
			y.Params[i].Bits[0] = greatestOf(y.Params[i].Width)
			y.Slots[i][0].Bits[0] = minusOf(y.Params[i].Width)
			y.Slots[i][1].Bits[0] = greatestOf(y.Params[i].Width) ^ minusOf(y.Params[i].Width)
			y.Slots[i][2].Bits[1] = 1
		}
		wantIs(t, "ends of the floats", p, s, y, api.OK)
		v := otherOf(w)
		for _, loss := range []int{0, 1, minusOf(v), pattern(-3, v), greatestOf(v), greatestOf(v) ^ minusOf(v)} {
			y := cloned(x)
			y.Loss = loss
			wantIs(t, "another loss", p, s, y, api.OK)
		}
		for _, speed := range []int{0, 1, minusOf(64), bitsOf(5), greatestOf(64)} {
			y := cloned(x)
			y.Rate = speed
			wantIs(t, "another rate", p, s, y, api.OK)
			y.Step, y.Epoch, y.Batch = 0, 0, 0
			wantIs(t, "a rate at the beginning", p, s, y, api.OK)
		}
	}
}

// TestP2103Rules: a state of one rule is one of another just where they keep the same.
func TestP2103Rules(t *testing.T) {
	for _, w := range widths {
		p, s := subject(w)
		for _, kind := range kinds {
			p.Rule = ruleOf(kind)
			x := behind(t, p, s, 2)
			for _, other := range kinds {
				q := p
				q.Rule = ruleOf(other)
				keeps := func(kind int) int { return []int{0, 1, 1, 1, 1, 3}[kind] }
				e := api.OK
				if keeps(kind) != keeps(other) {
					e = api.ErrState
				}
				wantIs(t, "another rule", q, s, x, e)
			}
		}
	}
}

// TestP2103Batches: which Epoch and Batch belong to a Step hangs on how many batches an epoch has.
func TestP2103Batches(t *testing.T) {
	r := rand.New(rand.NewSource(7))
	for _, rows := range []int{1, 5, 6, 300} {
		p, s := linear(64), api.Set{X: some(r, rows, 1, 64), Y: some(r, rows, 1, 64)}
		x := begun(t, p, s)
		for _, size := range []int{1, 2, 3, 6, 7, 256} {
			p.Batch = size
			for step := range 12 {
				for epoch := -1; epoch < 13; epoch++ {
					for batch := -2; batch < 9; batch++ {
						x.Step, x.Epoch, x.Batch = step, epoch, batch
						wantIs(t, "a place", p, s, x, isOf(p, s, x))
					}
				}
			}
			wantIs(t, "a far place", p, s, moved(p, s, x, api.MaxStep), api.OK)
		}
	}
}

// TestP2103Wrap: an epoch whose product with the batches wraps round to the right number.
func TestP2103Wrap(t *testing.T) {
	r := rand.New(rand.NewSource(8))
	p, s := linear(64), api.Set{X: some(r, 4, 1, 64), Y: some(r, 4, 1, 64)}
	p.Batch = 1
	x := begun(t, p, s)
	for step := range 8 {
		for _, turn := range []int{1 << 62, -1 << 62, lowest} {
			y := moved(p, s, x, step)
			wantIs(t, "the place", p, s, y, api.OK)
			y.Epoch += turn
			if wrapped(y.Epoch, 4)+y.Batch != step {
				t.Fatal("it does not wrap round")
			}
			wantIs(t, "a turn more", p, s, y, api.ErrState)
		}
	}
}

// TestP2103Bare: a plan without a parameter has states without any.
func TestP2103Bare(t *testing.T) {
	for _, w := range widths {
		p, s := bare(w), api.Set{X: vals(2, 2, w, 1, 2, 3, 4), Y: vals(2, 2, w, 1, 2, 3, 4)}
		wantIs(t, "none", p, s, api.State{}, api.OK)
		wantIs(t, "empty lists", p, s, api.State{Params: []api.Matrix{}, Slots: [][]api.Matrix{}}, api.OK)
		wantIs(t, "a parameter", p, s, api.State{Params: []api.Matrix{vals(1, 1, w, 1)}}, api.ErrState)
		wantIs(t, "a list of slots", p, s, api.State{Slots: [][]api.Matrix{nil}}, api.ErrState)
		wantIs(t, "a parameter and a list", p, s, api.State{Params: []api.Matrix{vals(1, 1, w, 1)}, Slots: [][]api.Matrix{nil}}, api.ErrState)
		wantIs(t, "a step", p, s, api.State{Step: 1, Epoch: 1, Loss: pattern(-2, w)}, api.OK)
	}
}
