package part_test

import (
	"math/rand"
	"slices"
	"strconv"
	"testing"

	"pupil/api"
	"pupil/part"
)

// sketch is what a plan and a set are made of: each piece can be turned without the others. The loss and the out are constants, so that no node takes an input or a parameter.
type sketch struct {
	set            api.Set
	inputs, params []api.Shape
	inits          []api.Init
	loss           api.Shape
	outAt, lossAt  func(nodes int) int // nil: where they stand
	more           []api.Node
}

// rightSketch is one that fits: widths are both among its parameters.
func rightSketch(width int) *sketch {
	r, v := rand.New(rand.NewSource(int64(width))), otherOf(width)
	s := &sketch{set: api.Set{X: some(r, 4, 3, width), Y: some(r, 4, 2, width)}, loss: api.Shape{Rows: 1, Cols: 1, Width: v}}
	s.inputs = []api.Shape{{Rows: 1, Cols: 3, Width: width}, {Rows: 1, Cols: 2, Width: width}}
	s.params = []api.Shape{{Rows: 3, Cols: 2, Width: width}, {Rows: 1, Cols: 2, Width: v}, {Rows: 2, Cols: 1, Width: width}, {Rows: 5, Cols: 4, Width: v}, {Rows: 1, Cols: 3, Width: width}}
	for _, p := range s.params {
		s.inits = append(s.inits, api.Init{Rows: p.Rows, Cols: p.Cols, Width: p.Width})
	}
	return s
}

// plan lays the last inputs and parameters first, so that places and numbers are unlike.
func (s *sketch) plan() api.Plan {
	var p api.Plan
	var nodes []api.Node
	for i, x := range slices.Backward(s.params) {
		nodes = append(nodes, param(i, x.Rows, x.Cols, x.Width))
	}
	for i, x := range slices.Backward(s.inputs) {
		nodes = append(nodes, input(i, x.Rows, x.Cols, x.Width))
	}
	p.Loss, p.Out = len(nodes), len(nodes)+1
	nodes = append(nodes, constant(matrix(s.loss.Rows, s.loss.Cols, s.loss.Width, make([]int, s.loss.Rows*s.loss.Cols)...)), constant(vals(2, 3, 32, 1, 2, 3, 4, 5, 6)))
	p.Tape.Nodes = append(nodes, s.more...)
	if s.outAt != nil {
		p.Out = s.outAt(len(p.Tape.Nodes))
	}
	if s.lossAt != nil {
		p.Loss = s.lossAt(len(p.Tape.Nodes))
	}
	p.Inits = s.inits
	return p
}

// matrices tells parameters for it.
func (s *sketch) matrices() []api.Matrix {
	var l []api.Matrix
	for _, p := range s.params {
		l = append(l, some(rand.New(rand.NewSource(1)), p.Rows, p.Cols, p.Width))
	}
	return l
}

// flaw turns a piece so that it does not fit. Those with lesser ranks are looked for first; those of one rank are not told apart here.
type flaw struct {
	name string
	rank int
	e    api.Errno
	turn func(s *sketch)
}

// setFlaws are of sets that are none.
func setFlaws(width int) []flaw {
	var l []flaw
	add := func(e api.Errno, turn func(s *sketch)) { l = append(l, flaw{"set", 0, e, turn}) }
	for _, bad := range misshapes() {
		add(bad.e, func(s *sketch) { s.set.X = bad.m })
		add(bad.e, func(s *sketch) { s.set.Y = bad.m })
	}
	add(api.ErrWidth, func(s *sketch) { s.set.Y = vals(4, 2, otherOf(width), 1, 2, 3, 4, 5, 6, 7, 8) })
	add(api.ErrShape, func(s *sketch) { s.set.Y = vals(3, 2, width, 1, 2, 3, 4, 5, 6) })
	spot := rightSketch(width).set
	for _, b := range notFinite(width) {
		for _, at := range []int{0, 5, 11} {
			add(refusal(b, width), func(s *sketch) { s.set.X = with(spot.X, at, b) })
		}
		for _, at := range []int{0, 7} {
			add(refusal(b, width), func(s *sketch) { s.set.Y = with(spot.Y, at, b) })
		}
	}
	return l
}

// tapeFlaws are of tapes that are none, by a node behind the others.
func tapeFlaws() []flaw {
	var l []flaw
	for _, x := range []struct {
		e    api.Errno
		more []api.Node
	}{
		{api.ErrOp, []api.Node{{Op: 99}}}, {api.ErrOp, []api.Node{{}}}, {api.ErrOp, []api.Node{takes(highest, 0)}}, {api.ErrArg, []api.Node{takes(api.OpNeg)}}, {api.ErrArg, []api.Node{numbers(api.OpNeg, 0, 1, 0)}},
		{api.ErrNode, []api.Node{takes(api.OpNeg, -1)}}, {api.ErrNode, []api.Node{takes(api.OpNeg, 99)}}, {api.ErrNode, []api.Node{takes(api.OpAdd, 0, highest)}},
		{api.ErrInput, []api.Node{input(7, 1, 1, 64)}}, {api.ErrInput, []api.Node{input(8, 1, 1, 64)}}, {api.ErrParam, []api.Node{param(63, 1, 1, 64)}}, {api.ErrParam, []api.Node{param(lowest, 1, 1, 64)}},
		{api.ErrWidth, []api.Node{param(5, 1, 1, 16)}}, {api.ErrShape, []api.Node{param(5, 0, 1, 32)}}, {api.ErrLong, []api.Node{param(5, 64, 65, 32)}}, {api.ErrLong, make([]api.Node, 1025)},
		{api.ErrBits, []api.Node{constant(matrix(1, 1, 32, -1))}}, {api.ErrNaN, []api.Node{constant(matrix(1, 2, 64, 0, api.NaN))}}, {api.ErrInf, []api.Node{constant(matrix(1, 1, 32, api.Inf32))}},
		{api.ErrShape, []api.Node{numbers(api.OpForm, 2, 2, 0)}}, {api.ErrIndex, []api.Node{numbers(api.OpCutCols, 0, 4, 0)}},
	} {
		for i := range x.more {
			if len(x.more) > 1000 {
				x.more[i] = constant(vals(1, 1, 64, 1))
			}
		}
		l = append(l, flaw{"tape", 1, x.e, func(s *sketch) { s.more = x.more }})
	}
	return l
}

// nodeFlaws are of what a plan's nodes are, and of the inputs.
func nodeFlaws(width int) []flaw {
	var l []flaw
	far := []func(n int) int{func(n int) int { return n }, func(n int) int { return n + 1 }}
	for _, end := range append(ends, 1024) {
		far = append(far, func(int) int { return end })
	}
	for _, at := range far {
		l = append(l, flaw{"out", 2, api.ErrNode, func(s *sketch) { s.outAt = at }}, flaw{"loss", 2, api.ErrNode, func(s *sketch) { s.lossAt = at }})
	}
	for _, x := range []api.Shape{{Rows: 2, Cols: 1, Width: width}, {Rows: 1, Cols: 2, Width: width}, {Rows: 2, Cols: 2, Width: otherOf(width)}, {Rows: 1, Cols: 4096, Width: 64}, {Rows: 4096, Cols: 1, Width: 32}} {
		l = append(l, flaw{"loss' shape", 3, api.ErrShape, func(s *sketch) { s.loss = x }})
	}
	for _, count := range []int{0, 1, 3, 8} {
		l = append(l, flaw{strconv.Itoa(count) + " inputs", 4, api.ErrInput, func(s *sketch) {
			s.inputs = slices.Repeat(rightSketch(width).inputs, 4)[:count]
		}})
	}
	for i := range 2 {
		name := "input " + strconv.Itoa(i)
		add := func(rank int, e api.Errno, turn func(x *api.Shape)) {
			l = append(l, flaw{name, rank + 2*i, e, func(s *sketch) {
				for k := range s.inputs {
					if k == i {
						turn(&s.inputs[k])
					}
				}
			}})
		}
		add(5, api.ErrWidth, func(x *api.Shape) { x.Width = otherOf(width) })
		add(6, api.ErrShape, func(x *api.Shape) { x.Rows = 2 })
		add(6, api.ErrShape, func(x *api.Shape) { x.Rows = 4 })
		add(6, api.ErrShape, func(x *api.Shape) { x.Cols++ })
		add(6, api.ErrShape, func(x *api.Shape) { x.Cols-- })
		add(6, api.ErrShape, func(x *api.Shape) { x.Rows, x.Cols = x.Cols, x.Rows })
		add(6, api.ErrShape, func(x *api.Shape) { x.Cols = 5 - x.Cols }) // The other one's.
	}
	return l
}

// initFlaws are of the parameters.
func initFlaws(width int) []flaw {
	var l []flaw
	for _, count := range []int{0, 1, 4, 6, 65} {
		l = append(l, flaw{strconv.Itoa(count) + " inits", 9, api.ErrParam, func(s *sketch) {
			s.inits = slices.Repeat(rightSketch(width).inits, 13)[:count]
		}})
	}
	for i := range 5 {
		name := "parameter " + strconv.Itoa(i)
		add := func(rank int, e api.Errno, turn func(x *api.Init)) {
			l = append(l, flaw{name, rank + 2*i, e, func(s *sketch) {
				for k := range s.inits {
					if k == i {
						turn(&s.inits[k])
					}
				}
			}})
		}
		for _, w := range noWidths {
			add(10, api.ErrWidth, func(x *api.Init) { x.Width = w })
		}
		add(10, api.ErrWidth, func(x *api.Init) { x.Width = otherOf(x.Width) })
		for _, n := range append(ends, 0, 4096) {
			add(11, api.ErrShape, func(x *api.Init) { x.Rows = n })
			add(11, api.ErrShape, func(x *api.Init) { x.Cols = n })
		}
		add(11, api.ErrShape, func(x *api.Init) { x.Rows++ })
		add(11, api.ErrShape, func(x *api.Init) { x.Cols++ })
		add(11, api.ErrShape, func(x *api.Init) { x.Rows, x.Cols = x.Cols, x.Rows })
	}
	return l
}

func flaws(width int) []flaw {
	return slices.Concat(setFlaws(width), tapeFlaws(), nodeFlaws(width), initFlaws(width))
}

// flawed turns pieces of a sketch that fits.
func flawed(width int, l ...flaw) *sketch {
	s := rightSketch(width)
	for _, f := range l {
		f.turn(s)
	}
	return s
}

// TestP2001Right: plans that fit their sets.
func TestP2001Right(t *testing.T) {
	r := rand.New(rand.NewSource(1))
	for _, w := range widths {
		s := rightSketch(w)
		wantFits(t, "a sketch", s.plan(), s.set, api.OK)
		for _, rows := range []int{1, 2, 100, 1365} {
			wantFits(t, "mixed", mixed(w), mixedSet(r, rows, w), api.OK)
		}
		p, _ := linear(w)
		for _, rows := range []int{1, 4096} {
			wantFits(t, "linear", p, api.Set{X: some(r, rows, 1, w), Y: some(r, rows, 1, w)}, api.OK)
		}
		bare := planOf(0, 1, input(0, 1, 4096, w), constant(vals(1, 1, w, 1)), input(1, 1, 1, w))
		wantFits(t, "without a parameter", bare, api.Set{X: some(r, 1, 4096, w), Y: some(r, 1, 1, w)}, api.OK)
		bare.Out, bare.Loss = 2, 2
		wantFits(t, "an input as out and loss", bare, api.Set{X: some(r, 1, 4096, w), Y: some(r, 1, 1, w)}, api.OK)
		many := []api.Node{input(1, 1, 1, w), input(0, 1, 1, w)}
		for i := range 64 {
			many = append(many, param(63-i, 1+i, 64, otherOf(w)))
		}
		wantFits(t, "64 parameters", planOf(65, 1, many...), api.Set{X: some(r, 3, 1, w), Y: some(r, 3, 1, w)}, api.OK)
	}
	p, s := example()
	wantFits(t, "the example", p, s, api.OK)
}

// TestP2001Alone: each flaw alone.
func TestP2001Alone(t *testing.T) {
	for _, w := range widths {
		for _, f := range flaws(w) {
			s := flawed(w, f)
			wantFits(t, f.name, s.plan(), s.set, f.e)
			if e := fitsOf(s.plan(), s.set); e != f.e {
				t.Errorf("%s: the words say %v, the flaw %v", f.name, e, f.e)
			}
		}
	}
}

// TestP2001Order: of each two flaws the one that is looked for first.
func TestP2001Order(t *testing.T) {
	for _, w := range widths {
		l := flaws(w)
		for _, first := range l {
			for _, second := range l {
				if first.rank >= second.rank {
					continue
				}
				s := flawed(w, first, second)
				if e := part.Fits(s.plan(), s.set); e != first.e {
					t.Fatalf("%s and %s: %v, want %v", first.name, second.name, e, first.e)
				}
			}
		}
	}
}

// TestP2001Several: any flaws together.
func TestP2001Several(t *testing.T) {
	r := rand.New(rand.NewSource(2001))
	for _, w := range widths {
		l := flaws(w)
		for range 2000 {
			var some []flaw
			for range 1 + r.Intn(6) {
				some = append(some, l[r.Intn(len(l))])
			}
			s := flawed(w, some...)
			wantFits(t, "several", s.plan(), s.set, fitsOf(s.plan(), s.set))
		}
	}
}

// strewn puts something into all that Fits does not look at.
func strewn(r *rand.Rand, p api.Plan) api.Plan {
	any := func() int {
		return append(ends, 0, 1, 2, 5, api.Inf, api.NaN, r.Int())[r.Intn(len(ends)+7)]
	}
	p.Inits = slices.Clone(p.Inits)
	for i := range p.Inits {
		p.Inits[i].Kind, p.Inits[i].A, p.Inits[i].B = any(), any(), any()
	}
	p.Rule = api.Rule{Kind: any(), Momentum: any(), Beta: any(), Eps: any(), Decay: any(), Clip: any(), Norm: any()}
	p.Schedule = api.Schedule{Kind: any(), Base: any(), Factor: any(), Warm: any(), Every: any(), Total: any()}
	p.Batch, p.Seed = any(), any()
	return p
}

// TestP2001Else: what else a plan says is not looked at.
func TestP2001Else(t *testing.T) {
	r := rand.New(rand.NewSource(2))
	for _, w := range widths {
		s := rightSketch(w)
		for range 300 {
			wantFits(t, "strewn", strewn(r, s.plan()), s.set, api.OK)
		}
		for _, f := range flaws(w) {
			s := flawed(w, f)
			wantFits(t, f.name+", strewn", strewn(r, s.plan()), s.set, f.e)
		}
	}
}

// TestP2001Nodes: every node of a tape as the loss, and as the out.
func TestP2001Nodes(t *testing.T) {
	r := rand.New(rand.NewSource(3))
	for _, w := range widths {
		p, s := mixed(w), mixedSet(r, 2, w)
		numbers := []int{9, 10, 11, 12}
		for node := -2; node < 18; node++ {
			e := api.ErrShape
			switch {
			case node < 0 || node > 14:
				e = api.ErrNode
			case slices.Contains(numbers, node):
				e = api.OK
			}
			p.Out, p.Loss = 0, node
			wantFits(t, "loss "+strconv.Itoa(node), p, s, e)
			p.Out, p.Loss = 14, node
			wantFits(t, "loss "+strconv.Itoa(node), p, s, e)
			e = api.OK
			if node < 0 || node > 14 {
				e = api.ErrNode
			}
			p.Out, p.Loss = node, 12
			wantFits(t, "out "+strconv.Itoa(node), p, s, e)
		}
	}
	wantFits(t, "nothing at all", api.Plan{}, api.Set{}, api.ErrWidth)
	wantFits(t, "no plan", api.Plan{}, mixedSet(r, 2, 64), api.ErrNode)
}
