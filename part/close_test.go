package part_test

import (
	"math/rand"
	"slices"
	"strconv"
	"testing"

	"pupil/api"
	"pupil/part"
)

// sums makes a part that can be closed by a sketch's plan, of so many rows; all its sums are small.
func (s *sketch) sums(r *rand.Rand, rows int) api.Part {
	x := api.Part{Rows: upTo(rows), Loss: whole(r.Int63n(1000)-500, -r.Intn(20)).acc()}
	for _, p := range s.params {
		var l []api.Acc
		for range p.Rows * p.Cols {
			l = append(l, whole(r.Int63n(1000)-500, -r.Intn(20)).acc())
		}
		x.Grads = append(x.Grads, l)
	}
	return x
}

// hitch turns something so that a part can't be closed. Those with lesser ranks are looked for first.
type hitch struct {
	name  string
	rank  int
	where api.Where
	e     api.Errno
	turn  func(s *sketch, x *api.Part)
}

// outward are sums that are not finite as floats of a width, by whatever few rows they are divided.
func outward(width int) map[api.Errno][]api.Acc {
	top := 1030
	if width == 32 {
		top = 134
	}
	return map[api.Errno][]api.Acc{
		api.ErrInf: {{Plus: true}, {Minus: true}, {Plus: true, Sum: whole(-5, 0).acc().Sum}, whole(1, top).acc(), whole(-1, top).acc(), whole(3, api.MaxExp).acc(), whole(-1, api.MaxExp).acc()},
		api.ErrNaN: {{None: true}, {Plus: true, Minus: true}, {None: true, Plus: true}, {None: true, Minus: true, Sum: whole(7, 7).acc().Sum}},
	}
}

// planHitches are of the plan, and of how many lists there are.
func planHitches() []hitch {
	var l []hitch
	for _, f := range tapeFlaws() {
		l = append(l, hitch{"tape", 0, api.Where{}, f.e, func(s *sketch, _ *api.Part) { f.turn(s) }})
	}
	far := []func(n int) int{func(n int) int { return n }, func(n int) int { return n + 1 }}
	for _, end := range append(ends, 1024) {
		far = append(far, func(int) int { return end })
	}
	for _, at := range far {
		l = append(l, hitch{"loss", 1, api.Where{}, api.ErrNode, func(s *sketch, _ *api.Part) { s.lossAt = at }})
	}
	for _, count := range []int{0, 1, 4, 6, 65} {
		l = append(l, hitch{strconv.Itoa(count) + " lists", 2, api.Where{}, api.ErrParam, func(_ *sketch, x *api.Part) { x.Grads = slices.Repeat(x.Grads, 13)[:count] }})
	}
	return l
}

// partHitches are of the part, whose lists are there.
func partHitches() []hitch {
	var l []hitch
	for _, rows := range badRows() {
		l = append(l, hitch{"rows", 3, api.Where{}, api.ErrArg, func(_ *sketch, x *api.Part) { x.Rows = rows }})
	}
	for i, bad := range badSums() {
		l = append(l, hitch{"the loss' sum", 3, api.Where{}, api.ErrArg, func(_ *sketch, x *api.Part) { x.Loss = bad }})
		l = append(l, hitch{"a sum", 3, api.Where{}, api.ErrArg, func(_ *sketch, x *api.Part) {
			for k := range x.Grads {
				if k != i%5 {
					continue
				}
				if len(x.Grads[k]) == 0 { // No parameter has so few elements, nor just one.
					x.Grads[k] = make([]api.Acc, 1)
				}
				x.Grads[k][i%len(x.Grads[k])] = bad
			}
		}})
	}
	for i := range 5 {
		for _, turn := range []func(l []api.Acc) []api.Acc{
			func(l []api.Acc) []api.Acc { return append(l, api.Acc{}) }, func(l []api.Acc) []api.Acc { return l[:max(1, len(l))-1] }, func([]api.Acc) []api.Acc { return nil }, func([]api.Acc) []api.Acc { return make([]api.Acc, 4096) },
		} {
			l = append(l, hitch{"list " + strconv.Itoa(i), 4, api.Where{}, api.ErrShape, func(_ *sketch, x *api.Part) {
				for k := range x.Grads {
					if k == i {
						x.Grads[k] = turn(x.Grads[k])
					}
				}
			}})
		}
	}
	return l
}

// floatHitches are of what is not finite when it is rounded.
func floatHitches(width int) []hitch {
	var l []hitch
	right := rightSketch(width)
	for e, sums := range outward(right.loss.Width) {
		for _, a := range sums {
			l = append(l, hitch{"the loss", 5, api.Where{Kind: api.InLoss, Node: right.plan().Loss}, e, func(_ *sketch, x *api.Part) { x.Loss = a }})
		}
	}
	rank := 6
	for i, p := range right.params {
		for at := range p.Rows * p.Cols {
			for e, sums := range outward(p.Width) {
				for _, a := range sums {
					l = append(l, hitch{"parameter " + strconv.Itoa(i), rank, api.Where{Kind: api.InGrad, Node: i, At: at}, e, func(_ *sketch, x *api.Part) {
						for k := range x.Grads {
							if k == i && at < len(x.Grads[k]) {
								x.Grads[k][at] = a
							}
						}
					}})
				}
			}
			rank++
		}
	}
	return l
}

func hitches(width int) []hitch {
	return slices.Concat(planHitches(), partHitches(), floatHitches(width))
}

// hitched turns all these; what is looked for first is turned last, so that nothing turns it back.
func hitched(r *rand.Rand, width int, l ...hitch) (api.Plan, api.Part) {
	s := rightSketch(width)
	x := s.sums(r, 3)
	slices.SortStableFunc(l, func(a, b hitch) int { return b.rank - a.rank })
	for _, h := range l {
		h.turn(s, &x)
	}
	return s.plan(), x
}

// TestP2005Alone: each hitch alone.
func TestP2005Alone(t *testing.T) {
	r := rand.New(rand.NewSource(2005))
	for _, w := range widths {
		for _, h := range hitches(w) {
			p, x := hitched(r, w, h)
			wantOpen(t, h.name, p, x, h.where, h.e)
			if _, _, where, e := closeOf(p, x); where != h.where || e != h.e {
				t.Errorf("%s: the words say %v, %v, the hitch %v, %v", h.name, where, e, h.where, h.e)
			}
		}
	}
}

// TestP2005Order: of each two hitches the one that is looked for first. (Of those of sums that are not finite some are enough.)
func TestP2005Order(t *testing.T) {
	r := rand.New(rand.NewSource(1))
	for _, w := range widths {
		l := hitches(w)
		for _, first := range l {
			for _, second := range l {
				if first.rank >= second.rank || second.rank > 6 && r.Intn(40) > 0 {
					continue
				}
				p, x := hitched(r, w, first, second)
				loss, grads, where, e := part.Close(p, x)
				if loss != 0 || len(grads) > 0 || where != first.where || e != first.e {
					t.Fatalf("%s and %s: %v, %v, want %v, %v", first.name, second.name, where, e, first.where, first.e)
				}
			}
		}
	}
}

// TestP2005Several: any hitches together.
func TestP2005Several(t *testing.T) {
	r := rand.New(rand.NewSource(2))
	for _, w := range widths {
		l := hitches(w)
		for range 1500 {
			var some []hitch
			for range 1 + r.Intn(5) {
				some = append(some, l[r.Intn(len(l))])
			}
			p, x := hitched(r, w, some...)
			wantClose(t, "several", p, x)
		}
	}
}

// TestP2005Told: parts of any number of rows, with sums of all sizes.
func TestP2005Told(t *testing.T) {
	r := rand.New(rand.NewSource(3))
	told := 0
	for _, w := range widths {
		s := rightSketch(w)
		for range 150 {
			rows := r.Perm(4096)[:1+r.Intn(r.Intn(4095)+1)]
			slices.Sort(rows)
			x := s.sums(r, 1)
			x.Rows = rows
			if _, _, _, e := wantClose(t, "small sums", s.plan(), x); e == api.OK {
				told++
			}
			y := filled(r, rows, 6, 2, 2, 20, 3)
			wantClose(t, "sums of all sizes", s.plan(), y)
		}
	}
	if told != 300 {
		t.Errorf("%d are told", told)
	}
}

// TestP2005Else: nothing else of a plan is looked at: its Inits, its Out, what shape its loss is of, how many inputs there are.
func TestP2005Else(t *testing.T) {
	r := rand.New(rand.NewSource(4))
	for _, w := range widths {
		for range 100 {
			s := rightSketch(w)
			x := s.sums(r, 1+r.Intn(9))
			s.inits = s.inits[:r.Intn(6)]
			s.inputs = slices.Repeat(s.inputs, 4)[:r.Intn(9)]
			s.loss = api.Shape{Rows: 1 + r.Intn(3), Cols: 1 + r.Intn(3), Width: widths[r.Intn(2)]}
			s.outAt = func(int) int { return ends[r.Intn(len(ends))] }
			if _, _, _, e := wantClose(t, "strewn", strewn(r, s.plan()), x); e != api.OK {
				t.Errorf("%v", e)
			}
		}
	}
}

// numberPlan is one with a loss and a parameter of one element, of a width each.
func numberPlan(loss, width int) api.Plan {
	return planOf(0, 0, constant(vals(1, 1, loss, 1)), param(0, 1, 1, width))
}

// edge is a sum, and what its part by so many rows is as a float.
type edge struct {
	sum  power
	n    int
	want int
	e    api.Errno
}

// edges are means between two floats, at the greatest ones, and at the least ones.
func edges(width int) []edge {
	places, top, low := 53, 1024, -1074
	if width == 32 {
		places, top, low = 24, 128, -149
	}
	half := whole(1<<places+1, 0) // between 2^places and the next one
	whisker := whole(1, -2000)
	above := power{half.n, top - places}                                // beyond the greatest one
	over := whole(1, top).plus(power{whole(-1, 0).n, top - places - 1}) // between the greatest one and what would come next
	great, least, two := greatestOf(width), 1, pattern(float64(int64(1)<<places+2), width)
	floor := pattern(float64(int64(1)<<places), width)
	var l []edge
	for _, n := range []int{1, 2, 3, 7, 10, 4095, 4096} {
		m := int64(n)
		l = append(l,
			edge{half.times(m), n, floor, api.OK}, edge{half.times(m).plus(whisker), n, floor + 1, api.OK}, edge{half.times(m).plus(whisker.times(-1)), n, floor, api.OK},
			edge{half.times(-m), n, negative(floor, width), api.OK}, edge{half.times(-m).plus(whisker.times(-1)), n, negative(floor+1, width), api.OK},
			edge{whole(1<<places+3, 0).times(m), n, two + 1, api.OK}, edge{whole(1<<places+3, 0).times(m).plus(whisker.times(-1)), n, two, api.OK},
			edge{over.times(m), n, 0, api.ErrInf}, edge{over.times(m).plus(whisker.times(-1)), n, great, api.OK}, edge{over.times(-m), n, 0, api.ErrInf}, edge{over.times(-m).plus(whisker), n, negative(great, width), api.OK}, edge{above.times(m), n, 0, api.ErrInf},
			edge{whole(m, low), n, least, api.OK}, edge{whole(m, low-1), n, 0, api.OK}, edge{whole(m, low-1).plus(whisker), n, least, api.OK}, edge{whole(-m, low-1), n, 0, api.OK}, edge{whole(-m, low-1).plus(whisker.times(-1)), n, negative(least, width), api.OK},
			edge{whole(3*m, low-1), n, 2, api.OK}, edge{whole(-m, -100000), n, 0, api.OK}, edge{whole(0, 0), n, 0, api.OK}, edge{whole(-5*m, 0), n, pattern(-5, width), api.OK},
		)
	}
	return l
}

// TestP2005Edges: each is rounded once, from the exact part, to the width of its node.
func TestP2005Edges(t *testing.T) {
	for _, w := range widths {
		for _, v := range widths {
			for i, c := range edges(w) {
				name := "edge " + strconv.Itoa(i)
				one := whole(int64(c.n), 0).acc()
				x := api.Part{Rows: upTo(c.n), Loss: c.sum.acc(), Grads: [][]api.Acc{{one}}}
				y := api.Part{Rows: upTo(c.n), Loss: one, Grads: [][]api.Acc{{c.sum.acc()}}}
				if c.e != api.OK {
					wantOpen(t, name, numberPlan(w, v), x, api.Where{Kind: api.InLoss}, c.e)
					wantOpen(t, name, numberPlan(v, w), y, api.Where{Kind: api.InGrad}, c.e)
					continue
				}
				loss, grads, _, e := wantClose(t, name, numberPlan(w, v), x)
				if loss != c.want || e != api.OK || grads[0].Bits[0] != pattern(1, v) {
					t.Errorf("%s: the words say %x, %x, %v, want %x", name, loss, grads, e, c.want)
				}
				loss, grads, _, e = wantClose(t, name, numberPlan(v, w), y)
				if loss != pattern(1, v) || e != api.OK || !same(grads[0], matrix(1, 1, w, c.want)) {
					t.Errorf("%s: the words say %x, %x, %v, want %x", name, loss, grads, e, c.want)
				}
			}
		}
	}
}

// TestP2005First: of several that are not finite the first one, by the parameters' numbers, not by their nodes.
func TestP2005First(t *testing.T) {
	p := planOf(0, 3, param(2, 2, 2, 64), param(0, 1, 2, 32), param(1, 2, 1, 64), constant(vals(1, 1, 32, 1)))
	fine, inf, none := whole(3, 0).acc(), api.Acc{Minus: true}, api.Acc{None: true}
	grad := func(number, at int) api.Where { return api.Where{Kind: api.InGrad, Node: number, At: at} }
	for i, c := range []struct {
		loss  api.Acc
		grads [][]api.Acc
		where api.Where
		e     api.Errno
	}{
		{fine, [][]api.Acc{{fine, fine}, {fine, fine}, {fine, fine, fine, fine}}, api.Where{}, api.OK},
		{inf, [][]api.Acc{{none, none}, {fine, fine}, {fine, fine, fine, fine}}, api.Where{Kind: api.InLoss, Node: 3}, api.ErrInf},
		{none, [][]api.Acc{{fine, fine}, {fine, fine}, {fine, inf, fine, fine}}, api.Where{Kind: api.InLoss, Node: 3}, api.ErrNaN},
		{fine, [][]api.Acc{{fine, inf}, {none, none}, {none, none, fine, fine}}, grad(0, 1), api.ErrInf},
		{fine, [][]api.Acc{{none, inf}, {inf, inf}, {inf, fine, fine, fine}}, grad(0, 0), api.ErrNaN},
		{fine, [][]api.Acc{{fine, fine}, {fine, none}, {inf, inf, inf, inf}}, grad(1, 1), api.ErrNaN},
		{fine, [][]api.Acc{{fine, fine}, {inf, none}, {fine, fine, fine, none}}, grad(1, 0), api.ErrInf},
		{fine, [][]api.Acc{{fine, fine}, {fine, fine}, {fine, fine, inf, none}}, grad(2, 2), api.ErrInf},
		{fine, [][]api.Acc{{fine, fine}, {fine, fine}, {fine, fine, fine, none}}, grad(2, 3), api.ErrNaN},
		{fine, [][]api.Acc{{whole(1, 128).acc(), fine}, {whole(1, 128).acc(), fine}, {fine, fine, fine, fine}}, grad(0, 0), api.ErrInf}, // Too great for width 32 alone.
	} {
		_, _, where, e := wantClose(t, "case "+strconv.Itoa(i), p, api.Part{Rows: []int{7}, Loss: c.loss, Grads: c.grads})
		if where != c.where || e != c.e {
			t.Errorf("case %d: the words say %v, %v", i, where, e)
		}
	}
}

// TestP2005Bare: a plan without parameters, and tapes that have nothing to close.
func TestP2005Bare(t *testing.T) {
	for _, w := range widths {
		p := planOf(9, 0, input(0, 3, 3, w))
		loss, grads, _, e := wantClose(t, "no parameters", p, api.Part{Rows: []int{0, 9}, Loss: whole(5, 0).acc()})
		if loss != pattern(2.5, w) || len(grads) != 0 || e != api.OK {
			t.Errorf("%x, %v, %v", loss, grads, e)
		}
	}
	x := api.Part{Rows: []int{0}}
	wantOpen(t, "no plan", api.Plan{}, x, api.Where{}, api.ErrNode)
	wantOpen(t, "nothing at all", api.Plan{}, api.Part{}, api.Where{}, api.ErrNode)
	wantOpen(t, "no part", planOf(0, 0, constant(vals(1, 1, 64, 1))), api.Part{}, api.Where{}, api.ErrArg)
}
