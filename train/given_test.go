package train_test

import (
	"math"
	"math/rand"
	"slices"
	"testing"

	"pupil/acc"
	"pupil/api"
	"pupil/train"
)

// The ends of the ints.
const (
	lowest  = math.MinInt
	highest = math.MaxInt
)

var (
	widths = []int{32, 64}
	ends   = []int{lowest, lowest + 1, -1 << 32, -1, 1 << 32, 1 << 62, highest - 1, highest}
	kinds  = []int{api.RulePlain, api.RuleMomentum, api.RuleNesterov, api.RuleAdagrad, api.RuleRms, api.RuleAdam}
)

// pattern tells a number's bits of a width, bitsOf those of a binary64.
func pattern(f float64, width int) int {
	if width == 32 {
		return int(math.Float32bits(float32(f)))
	}
	return int(math.Float64bits(f))
}

func bitsOf(f float64) int { return pattern(f, 64) }

// value tells what bits say.
func value(b, width int) float64 {
	if width == 32 {
		return float64(math.Float32frombits(uint32(b)))
	}
	return math.Float64frombits(uint64(b))
}

func minusOf(width int) int { return pattern(math.Copysign(0, -1), width) }

func infinityOf(width int) int { return pattern(math.Inf(1), width) }

func greatestOf(width int) int { return infinityOf(width) - 1 }

// otherOf tells the width that it is not.
func otherOf(width int) int { return 96 - width }

// notFinite are patterns of a width that are no finite float.
func notFinite(width int) []int {
	inf := infinityOf(width)
	l := []int{inf, inf ^ minusOf(width), inf + 1, (inf + 1) ^ minusOf(width), api.NaN}
	if width == 32 {
		l[4] = api.NaN32
	}
	return l
}

// matrix makes one of bits, vals one of numbers.
func matrix(rows, cols, width int, bits ...int) api.Matrix {
	return api.Matrix{Rows: rows, Cols: cols, Width: width, Bits: bits}
}

func vals(rows, cols, width int, numbers ...float64) api.Matrix {
	m := matrix(rows, cols, width)
	for _, f := range numbers {
		m.Bits = append(m.Bits, pattern(f, width))
	}
	return m
}

// some makes one of random numbers about 0.
func some(r *rand.Rand, rows, cols, width int) api.Matrix {
	m := matrix(rows, cols, width)
	for range rows * cols {
		m.Bits = append(m.Bits, pattern(r.NormFloat64(), width))
	}
	return m
}

// copied, copies and cloned make the same, in memory of its own.
func copied(m api.Matrix) api.Matrix {
	m.Bits = slices.Clone(m.Bits)
	return m
}

func copies(l []api.Matrix) []api.Matrix {
	l = slices.Clone(l)
	for i := range l {
		l[i] = copied(l[i])
	}
	return l
}

func cloned(x api.State) api.State {
	x.Params, x.Slots = copies(x.Params), slices.Clone(x.Slots)
	for i := range x.Slots {
		x.Slots[i] = copies(x.Slots[i])
	}
	return x
}

func clonedSum(a api.Acc) api.Acc {
	a.Sum.Mag = slices.Clone(a.Sum.Mag)
	return a
}

func clonedPart(x api.Part) api.Part {
	x.Rows, x.Loss, x.Grads = slices.Clone(x.Rows), clonedSum(x.Loss), slices.Clone(x.Grads)
	for i := range x.Grads {
		x.Grads[i] = slices.Clone(x.Grads[i])
		for k, a := range x.Grads[i] {
			x.Grads[i][k] = clonedSum(a)
		}
	}
	return x
}

func clonedPlan(p api.Plan) api.Plan {
	p.Inits, p.Tape.Nodes = slices.Clone(p.Inits), slices.Clone(p.Tape.Nodes)
	for i, n := range p.Tape.Nodes {
		p.Tape.Nodes[i].In, p.Tape.Nodes[i].Bits = slices.Clone(n.In), slices.Clone(n.Bits)
	}
	return p
}

func clonedSet(s api.Set) api.Set { return api.Set{X: copied(s.X), Y: copied(s.Y)} }

func same(a, b api.Matrix) bool {
	return a.Rows == b.Rows && a.Cols == b.Cols && a.Width == b.Width && slices.Equal(a.Bits, b.Bits)
}

func sameAll(a, b []api.Matrix) bool { return slices.EqualFunc(a, b, same) }

func sameState(a, b api.State) bool {
	return a.Step == b.Step && a.Epoch == b.Epoch && a.Batch == b.Batch && a.Loss == b.Loss && a.Rate == b.Rate &&
		sameAll(a.Params, b.Params) && slices.EqualFunc(a.Slots, b.Slots, sameAll)
}

func samePart(a, b api.Part) bool {
	return slices.Equal(a.Rows, b.Rows) && acc.Same(a.Loss, b.Loss) &&
		slices.EqualFunc(a.Grads, b.Grads, func(x, y []api.Acc) bool { return slices.EqualFunc(x, y, acc.Same) })
}

// input, param, constant, takes and numbers make nodes.
func input(a, rows, cols, width int) api.Node {
	return api.Node{Op: api.OpInput, A: a, Rows: rows, Cols: cols, Width: width}
}

func param(a, rows, cols, width int) api.Node {
	return api.Node{Op: api.OpParam, A: a, Rows: rows, Cols: cols, Width: width}
}

func takes(op int, in ...int) api.Node { return api.Node{Op: op, In: in} }

func numbers(op, a, b int, in ...int) api.Node { return api.Node{Op: op, A: a, B: b, In: in} }

// planOf makes a plan of nodes: its Inits are the parameters' own, of noughts; a constant rate of 1/16, batches of 3, the seed 1.
func planOf(out, loss int, nodes ...api.Node) api.Plan {
	p := api.Plan{Tape: api.Tape{Nodes: nodes}, Out: out, Loss: loss, Batch: 3, Seed: 1}
	p.Schedule.Base = bitsOf(0.0625)
	for number := range api.MaxParams {
		for _, n := range nodes {
			if n.Op == api.OpParam && n.A == number {
				p.Inits = append(p.Inits, api.Init{Rows: n.Rows, Cols: n.Cols, Width: n.Width})
			}
		}
	}
	return p
}

// example is the chapter's plan, with its set.
func example() (api.Plan, api.Set) {
	p := planOf(3, 5, input(0, 1, 1, 64), input(1, 1, 1, 64), param(0, 1, 1, 64), takes(api.OpMul, 0, 2), takes(api.OpSub, 3, 1), takes(api.OpMul, 4, 4))
	return p, api.Set{X: vals(3, 1, 64, 1, 2, 3), Y: vals(3, 1, 64, 2, 4, 6)}
}

// mixed is a plan whose inputs and parameters stand in another order than their numbers, of both widths: the set and the net are of one, the loss, and the two last parameters, of the other one. The loss is multiplied by the third one, and does not hang on the last; nodes stand behind it.
func mixed(width int) api.Plan {
	v, turn := otherOf(width), api.OpWide
	if width == 64 {
		turn = api.OpNarrow
	}
	p := planOf(6, 12,
		param(1, 1, 2, width), input(1, 1, 2, width), param(0, 3, 2, width), input(0, 1, 3, width),
		takes(api.OpProduct, 3, 2), takes(api.OpAdd, 4, 0), takes(api.OpTanh, 5), takes(api.OpSub, 6, 1), takes(api.OpMul, 7, 7), takes(api.OpSum, 8),
		takes(turn, 9), param(2, 1, 1, v), takes(api.OpMul, 10, 11), param(3, 2, 2, v), takes(api.OpNeg, 13))
	p.Inits[0].Kind, p.Inits[1].Kind, p.Inits[1].A = api.InitGlorot, api.InitNormal, bitsOf(0.5)
	p.Inits[2].Kind, p.Inits[2].A = api.InitConst, bitsOf(1)
	p.Inits[3].Kind, p.Inits[3].A, p.Inits[3].B = api.InitUniform, bitsOf(-1), bitsOf(2)
	p.Seed = 42
	return p
}

func mixedSet(r *rand.Rand, rows, width int) api.Set {
	return api.Set{X: some(r, rows, 3, width), Y: some(r, rows, 2, width)}
}

// linear is a plan whose loss is x times one parameter and y times another: at the beginning these are 1 and 0, so that a row's loss is its x, and the gradients are its x and its y.
func linear(width int) api.Plan {
	p := planOf(4, 6, param(1, 1, 1, width), input(0, 1, 1, width), input(1, 1, 1, width), param(0, 1, 1, width), takes(api.OpMul, 1, 3), takes(api.OpMul, 2, 0), takes(api.OpAdd, 4, 5))
	p.Inits[0].Kind, p.Inits[0].A = api.InitConst, bitsOf(1)
	return p
}

// bare is a plan without a parameter.
func bare(width int) api.Plan {
	return planOf(2, 3, input(0, 1, 2, width), input(1, 1, 2, width), takes(api.OpMul, 0, 1), takes(api.OpSum, 2))
}

// ruleOf makes a rule of a kind with all its numbers.
func ruleOf(kind int) api.Rule {
	return api.Rule{Kind: kind, Momentum: bitsOf(0.75), Beta: bitsOf(0.875), Eps: bitsOf(0.001), Decay: bitsOf(0.01), Clip: bitsOf(1.5), Norm: bitsOf(2)}
}

// upTo tells 0 to n - 1.
func upTo(n int) []int {
	var l []int
	for i := range n {
		l = append(l, i)
	}
	return l
}

// begun tells the state at the beginning, which there must be.
func begun(t *testing.T, p api.Plan, s api.Set) api.State {
	t.Helper()
	x, e := train.New(p, s)
	if e != api.OK {
		t.Fatalf("New: %v", e)
	}
	return x
}

// behind tells the state behind so many steps, all of which must be made.
func behind(t *testing.T, p api.Plan, s api.Set, steps int) api.State {
	t.Helper()
	x, _, where, e := train.Run(p, s, begun(t, p, s), steps)
	if e != api.OK {
		t.Fatalf("Run of %d: %v, %v", steps, where, e)
	}
	return x
}

// moved tells a state with another Step, and the Epoch and Batch that belong to it.
func moved(p api.Plan, s api.Set, x api.State, step int) api.State {
	n := (s.X.Rows + p.Batch - 1) / p.Batch
	x.Step, x.Epoch, x.Batch = step, step/n, step%n
	return x
}

// strayed tells a state of other parameters and slots, such as no training comes to.
func strayed(r *rand.Rand, x api.State) api.State {
	x = cloned(x)
	stray := func(l []api.Matrix) {
		for i, m := range l {
			l[i] = some(r, m.Rows, m.Cols, m.Width)
		}
	}
	stray(x.Params)
	for _, l := range x.Slots {
		stray(l)
	}
	return x
}

// told is all that Apply, Step or Run tells.
type told struct {
	state  api.State
	traces []api.Trace
	where  api.Where
	e      api.Errno
}

// made tells an answer of Apply or Step; beside an error the trace must be zero.
func made(x api.State, trace api.Trace, where api.Where, e api.Errno) told {
	if e != api.OK && trace == (api.Trace{}) {
		return told{x, nil, where, e}
	}
	return told{x, []api.Trace{trace}, where, e}
}

// ran tells an answer of Run.
func ran(x api.State, traces []api.Trace, where api.Where, e api.Errno) told {
	return told{x, traces, where, e}
}

func (a told) same(b told) bool {
	return sameState(a.state, b.state) && slices.Equal(a.traces, b.traces) && a.where == b.where && a.e == b.e
}

// want wants an answer to be another one.
func want(t *testing.T, what string, got, wanted told) {
	t.Helper()
	if !got.same(wanted) {
		t.Errorf("%s: %x, want %x", what, got, wanted)
	}
}

// wantRefused wants an answer to be an error alone, with its Where.
func wantRefused(t *testing.T, what string, got told, where api.Where, e api.Errno) {
	t.Helper()
	want(t, what, got, told{where: where, e: e})
}
