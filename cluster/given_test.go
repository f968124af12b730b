package cluster_test

import (
	"math"
	"math/rand"
	"slices"
	"testing"

	"pupil/acc"
	"pupil/api"
	"pupil/cluster"
	"pupil/train"
)

// The ends of the ints.
const (
	lowest  = math.MinInt
	highest = math.MaxInt
)

var (
	widths = []int{32, 64}
	ends   = []int{lowest, lowest + 1, -1 << 32, -1, 1 << 32, 1 << 62, highest - 1, highest}
)

// pattern tells a number's bits of a width, bitsOf those of a binary64.
func pattern(f float64, width int) int {
	if width == 32 {
		return int(math.Float32bits(float32(f)))
	}
	return int(math.Float64bits(f))
}

func bitsOf(f float64) int { return pattern(f, 64) }

func infinityOf(width int) int { return pattern(math.Inf(1), width) }

// vals makes a matrix of numbers, some one of random numbers about 0.
func vals(rows, cols, width int, numbers ...float64) api.Matrix {
	m := api.Matrix{Rows: rows, Cols: cols, Width: width}
	for _, f := range numbers {
		m.Bits = append(m.Bits, pattern(f, width))
	}
	return m
}

func some(r *rand.Rand, rows, cols, width int) api.Matrix {
	m := vals(rows, cols, width)
	for range rows * cols {
		m.Bits = append(m.Bits, pattern(r.NormFloat64(), width))
	}
	return m
}

// leaf and takes make nodes.
func leaf(op, a, rows, cols, width int) api.Node {
	return api.Node{Op: op, A: a, Rows: rows, Cols: cols, Width: width}
}

func takes(op int, in ...int) api.Node { return api.Node{Op: op, In: in} }

// example is the chapter's plan, with its set.
func example() (api.Plan, api.Set) {
	p := scalar(64, api.OpMul)
	p.Inits[0] = api.Init{Rows: 1, Cols: 1, Width: 64}
	return p, api.Set{X: vals(3, 1, 64, 1, 2, 3), Y: vals(3, 1, 64, 2, 4, 6)}
}

// scalar is a plan of a number x, a number y and a parameter w, which begins as 1: its loss is the square of x w - y, or, with OpSqrt, the root of x, times w, times y.
func scalar(width, op int) api.Plan {
	p := api.Plan{Out: 3, Loss: 5, Inits: []api.Init{{Kind: api.InitConst, Rows: 1, Cols: 1, Width: width, A: bitsOf(1)}}, Batch: 3, Seed: 1}
	p.Schedule.Base = bitsOf(0.0625)
	p.Tape.Nodes = []api.Node{leaf(api.OpInput, 0, 1, 1, width), leaf(api.OpInput, 1, 1, 1, width), leaf(api.OpParam, 0, 1, 1, width)}
	if op == api.OpSqrt {
		p.Tape.Nodes = append(p.Tape.Nodes, takes(op, 0), takes(api.OpMul, 3, 2), takes(api.OpMul, 4, 1))
	} else {
		p.Tape.Nodes = append(p.Tape.Nodes, takes(op, 0, 2), takes(api.OpSub, 3, 1), takes(api.OpMul, 4, 4))
	}
	return p
}

// kind is a row of scalar's with OpSqrt: where it stops, and why; OK: it does not.
type kind struct {
	x, y  float64
	where api.Where
	e     api.Errno
}

// kinds are rows of each kind: the first two don't stop, the others in values and in adjoints, each with an answer of its own.
func kinds(width int) []kind {
	great := 1e308
	if width == 32 {
		great = 1e38
	}
	return []kind{
		{x: 4, y: 1}, {x: 9, y: -2},
		{-1, 1, api.Where{Kind: api.InValue, Node: 3}, api.ErrNaN},
		{100, great, api.Where{Kind: api.InValue, Node: 5}, api.ErrInf},
		{0, 1, api.Where{Kind: api.InAdjoint}, api.ErrInf},
		{0, 0, api.Where{Kind: api.InAdjoint}, api.ErrNaN},
	}
}

// setOf makes a set of such rows.
func setOf(width int, l ...kind) api.Set {
	s := api.Set{X: vals(len(l), 1, width), Y: vals(len(l), 1, width)}
	for _, k := range l {
		s.X.Bits, s.Y.Bits = append(s.X.Bits, pattern(k.x, width)), append(s.Y.Bits, pattern(k.y, width))
	}
	return s
}

// mixed is a plan of Adam's rule with parameters of both widths: the net is of one, the loss, which is multiplied by the last one, of the other.
func mixed(width int) api.Plan {
	v, turn := 96-width, api.OpWide
	if width == 64 {
		turn = api.OpNarrow
	}
	p := api.Plan{Out: 6, Loss: 12, Batch: 5, Seed: 42, Schedule: api.Schedule{Kind: api.RateRoot, Base: bitsOf(0.125), Every: 3, Warm: 2}}
	p.Rule = api.Rule{Kind: api.RuleAdam, Momentum: bitsOf(0.75), Beta: bitsOf(0.875), Eps: bitsOf(0.001), Norm: bitsOf(2)}
	p.Inits = []api.Init{{Kind: api.InitGlorot, Rows: 3, Cols: 2, Width: width}, {Kind: api.InitNormal, Rows: 1, Cols: 2, Width: width, A: bitsOf(0.5)}, {Kind: api.InitConst, Rows: 1, Cols: 1, Width: v, A: bitsOf(1)}}
	p.Tape.Nodes = []api.Node{
		leaf(api.OpParam, 1, 1, 2, width), leaf(api.OpInput, 1, 1, 2, width), leaf(api.OpParam, 0, 3, 2, width), leaf(api.OpInput, 0, 1, 3, width),
		takes(api.OpProduct, 3, 2), takes(api.OpAdd, 4, 0), takes(api.OpTanh, 5), takes(api.OpSub, 6, 1), takes(api.OpMul, 7, 7), takes(api.OpSum, 8),
		takes(turn, 9), leaf(api.OpParam, 2, 1, 1, v), takes(api.OpMul, 10, 11)}
	return p
}

func mixedSet(r *rand.Rand, rows, width int) api.Set {
	return api.Set{X: some(r, rows, 3, width), Y: some(r, rows, 2, width)}
}

// bare is a plan without a parameter.
func bare(width int) api.Plan {
	p := api.Plan{Out: 2, Loss: 2, Batch: 4, Seed: 7}
	p.Tape.Nodes = []api.Node{leaf(api.OpInput, 0, 1, 1, width), leaf(api.OpInput, 1, 1, 1, width), takes(api.OpMul, 0, 1)}
	return p
}

// upTo tells 0 to n - 1.
func upTo(n int) []int {
	var l []int
	for i := range n {
		l = append(l, i)
	}
	return l
}

func same(a, b api.Matrix) bool {
	return a.Rows == b.Rows && a.Cols == b.Cols && a.Width == b.Width && slices.Equal(a.Bits, b.Bits)
}

func sameAll(a, b []api.Matrix) bool { return slices.EqualFunc(a, b, same) }

func sameState(a, b api.State) bool {
	return a.Step == b.Step && a.Epoch == b.Epoch && a.Batch == b.Batch && a.Loss == b.Loss && a.Rate == b.Rate &&
		sameAll(a.Params, b.Params) && slices.EqualFunc(a.Slots, b.Slots, sameAll)
}

func samePart(a, b api.Part) bool {
	return slices.Equal(a.Rows, b.Rows) && acc.Same(a.Loss, b.Loss) &&
		slices.EqualFunc(a.Grads, b.Grads, func(x, y []api.Acc) bool { return slices.EqualFunc(x, y, acc.Same) })
}

func sameMail(a, b api.Mail) bool {
	return a.Kind == b.Kind && a.From == b.From && a.To == b.To && a.Step == b.Step && slices.Equal(a.Rows, b.Rows) &&
		sameAll(a.Params, b.Params) && samePart(a.Part, b.Part) && a.Where == b.Where && a.Err == b.Err
}

// machine is what takes a cluster's calls.
type machine interface {
	Mail() []api.Mail
	Deliver(i int) api.Errno
	Drop(i int) api.Errno
	Double(i int) api.Errno
	Move(i, to int) api.Errno
	Crash(worker int) api.Errno
	Restart(worker int) api.Errno
	Tick()
	Up() []bool
	State() api.State
	Traces() []api.Trace
	Done() (bool, api.Where, api.Errno)
}

// seen is all that a machine tells.
type seen struct {
	mail   []api.Mail
	up     []bool
	state  api.State
	traces []api.Trace
	done   bool
	where  api.Where
	e      api.Errno
}

func look(m machine) seen {
	done, where, e := m.Done()
	return seen{m.Mail(), m.Up(), m.State(), m.Traces(), done, where, e}
}

func (a seen) same(b seen) bool {
	return slices.EqualFunc(a.mail, b.mail, sameMail) && slices.Equal(a.up, b.up) && sameState(a.state, b.state) &&
		slices.Equal(a.traces, b.traces) && a.done == b.done && a.where == b.where && a.e == b.e
}

// made makes a cluster, which must go.
func made(t *testing.T, p api.Plan, s api.Set, workers, steps, patience int) *cluster.Cluster {
	t.Helper()
	c, e := cluster.New(p, s, workers, steps, patience)
	if e != api.OK || c == nil {
		t.Fatalf("New: %v", e)
	}
	return c
}

// madeFrom makes one at a state.
func madeFrom(t *testing.T, p api.Plan, s api.Set, x api.State, workers, steps, patience int) *cluster.Cluster {
	t.Helper()
	c, e := cluster.From(p, s, x, workers, steps, patience)
	if e != api.OK || c == nil {
		t.Fatalf("From: %v", e)
	}
	return c
}

// behind tells the state behind so many steps, all of which must be made.
func behind(t *testing.T, p api.Plan, s api.Set, steps int) api.State {
	t.Helper()
	x, e := train.New(p, s)
	if e != api.OK {
		t.Fatalf("New: %v", e)
	}
	x, _, where, e := train.Run(p, s, x, steps)
	if e != api.OK {
		t.Fatalf("Run of %d: %v, %v", steps, where, e)
	}
	return x
}

// all does calls that must answer OK.
func all(t *testing.T, l ...api.Errno) {
	t.Helper()
	for i, e := range l {
		if e != api.OK {
			t.Fatalf("call %d: %v", i, e)
		}
	}
}

// deliverAll delivers all mail, and what comes of it, from the first message on.
func deliverAll(t *testing.T, m machine) {
	t.Helper()
	for len(m.Mail()) > 0 {
		all(t, m.Deliver(0))
	}
}

// dropAll lets all mail be lost.
func dropAll(t *testing.T, m machine) {
	t.Helper()
	for range m.Mail() {
		all(t, m.Drop(0))
	}
}

// workFor is a message of work as it is looked for: the worker, the step, the rows.
type workFor struct {
	to, step int
	rows     []int
}

// wantWork wants the mail to be just this work.
func wantWork(t *testing.T, what string, m machine, l ...workFor) {
	t.Helper()
	mail := m.Mail()
	ok := len(mail) == len(l)
	for i := range min(len(mail), len(l)) {
		ok = ok && mail[i].Kind == api.MailWork && mail[i].To == l[i].to && mail[i].Step == l[i].step && slices.Equal(mail[i].Rows, l[i].rows)
	}
	if !ok {
		t.Errorf("%s: %v, want %v", what, mail, l)
	}
}

// wantDone wants a machine to be done, with a refusal, or, by OK, without one.
func wantDone(t *testing.T, what string, m machine, where api.Where, e api.Errno) {
	t.Helper()
	if done, at, f := m.Done(); !done || at != where || f != e {
		t.Errorf("%s: %v, %v, %v, want %v, %v", what, done, at, f, where, e)
	}
}

// wantSteps wants a machine to have made so many steps, and not to be done.
func wantSteps(t *testing.T, what string, m machine, steps int) {
	t.Helper()
	done, where, e := m.Done()
	if done || where != (api.Where{}) || e != api.OK || m.State().Step != steps || len(m.Traces()) != steps {
		t.Errorf("%s: %v, %v, %v; %d steps, %v, want %d", what, done, where, e, m.State().Step, m.Traces(), steps)
	}
}
