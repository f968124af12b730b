package bound_test

import (
	"math/rand"
	"reflect"
	"slices"
	"sync"
	"testing"

	"pupil/api"
	"pupil/eval"
)

// asked is what a call is given, laid into longer lists, with something ahead of each and spare room behind it.
type asked struct {
	told
	nodes    []api.Node
	matrices [][]api.Matrix
	lists    [][]int
}

// guard lays a list into a longer one.
func (a *asked) guard(l []int) []int {
	full := slices.Concat([]int{-7, -8}, l, []int{-9, -10, -11})
	a.lists = append(a.lists, full)
	return full[2 : 2+len(l)]
}

// guardAll lays matrices into a longer list, their bits too.
func (a *asked) guardAll(l []api.Matrix) []api.Matrix {
	full := slices.Concat([]api.Matrix{{Rows: -1}}, l, []api.Matrix{{Rows: -2}, {Rows: -3}})
	for i := range l {
		full[i+1].Bits = a.guard(l[i].Bits)
	}
	a.matrices = append(a.matrices, full)
	return full[1 : 1+len(l)]
}

func guarded(x told) *asked {
	a := &asked{told: x, nodes: slices.Concat([]api.Node{{Op: -5}}, x.tape.Nodes, []api.Node{{Op: -6}, {Op: -7}})}
	for i, n := range x.tape.Nodes {
		a.nodes[i+1].In, a.nodes[i+1].Bits = a.guard(n.In), a.guard(n.Bits)
	}
	a.tape.Nodes = a.nodes[1 : 1+len(x.tape.Nodes)]
	a.values, a.inputs, a.params = a.guardAll(x.values), a.guardAll(x.inputs), a.guardAll(x.params)
	a.seed.Bits = a.guard(x.seed.Bits)
	return a
}

// whole tells all that stands in it, in memory of its own.
func (a *asked) whole() asked {
	var w asked
	w.nodes = cloned(api.Tape{Nodes: a.nodes}).Nodes
	for _, l := range a.matrices {
		w.matrices = append(w.matrices, copies(l))
	}
	for _, l := range a.lists {
		w.lists = append(w.lists, slices.Clone(l))
	}
	return w
}

// spoil writes over all of it.
func (a *asked) spoil() {
	for _, l := range a.lists {
		fillInts(l)
	}
	for _, l := range a.matrices {
		fillMatrices(l)
	}
	for i := range a.nodes {
		a.nodes[i] = api.Node{Op: 99}
	}
}

// fillInts and fillMatrices write over a list and its spare room.
func fillInts(l []int) {
	for i := range cap(l) {
		l[:cap(l)][i] = -99
	}
}

func fillMatrices(l []api.Matrix) {
	for i := range cap(l) {
		l[:cap(l)][i] = api.Matrix{Rows: -99}
	}
}

// fillSpans writes over a list of spans and its spare room.
func fillSpans(l []api.Span) {
	for i := range cap(l) {
		l[:cap(l)][i] = api.Span{Lo: -99, Hi: -98}
	}
}

// copiesOf tells spans with memory of their own.
func copiesOf(l [][]api.Span) [][]api.Span {
	l = slices.Clone(l)
	for i := range l {
		l[i] = slices.Clone(l[i])
	}
	return l
}

// answers is what all three calls tell.
type answers struct {
	ahead, back       [][]api.Span
	told              api.Told
	first, next, last api.Fault
}

func (x told) all() answers {
	var a answers
	a.ahead, a.first = x.forward()
	a.back, a.next = x.reverse()
	a.told, a.last = x.tell()
	return a
}

func (a answers) same(b answers) bool {
	return sameSpans(a.ahead, b.ahead) && sameSpans(a.back, b.back) && a.told == b.told && a.first == b.first && a.next == b.next && a.last == b.last
}

// cases has tapes of every operation, mixed ones, ones that stop and ones that are refused.
func cases() []*asked {
	var l []*asked
	r := rand.New(rand.NewSource(1))
	for _, width := range widths {
		inputs, params := ofEvery(width)
		values, _ := eval.Run(every(width), inputs, params)
		for node := 0; node < len(values); node += 5 {
			l = append(l, guarded(told{every(width), values, inputs, params, node, values[node]}))
		}
		l = append(l, guarded(told{every(width), values, inputs, params, 3, values[0]}), guarded(told{every(width), values, params, inputs, 0, values[0]}))
	}
	for _, x := range mixed(60) {
		l = append(l, guarded(x))
		x.values = spoil(r, x.values)
		l = append(l, guarded(x))
	}
	for _, c := range refused() {
		l = append(l, guarded(told{tape: c.tape, values: list(good, tall), seed: good}))
	}
	// Nodes that move all elements as they are, and one that is taken twice.
	same := tapeOf(input(0, 1, 2, 64), numbers(api.OpForm, 1, 2, 0), numbers(api.OpCutCols, 0, 2, 1), numbers(api.OpCutRows, 0, 1, 2), takes(api.OpGlueRows, 3), takes(api.OpGlueCols, 4, 4), constant(good), numbers(api.OpForm, 1, 2, 6), param(0, 1, 2, 64), takes(api.OpRelu, 8))
	values, _ := eval.Run(same, list(good), list(good))
	for node, m := range values {
		l = append(l, guarded(told{same, values, list(good), list(good), node, m}))
	}
	return l
}

// apart writes over each list of spans, and wants that no other one turns.
func apart(t *testing.T, lists ...[][]api.Span) {
	t.Helper()
	all := slices.Concat(lists...)
	want := copiesOf(all)
	for i, l := range all {
		fillSpans(l)
		for k := i + 1; k < len(all); k++ {
			if !slices.Equal(all[k], want[k]) {
				t.Fatalf("lists %d and %d share memory", i, k)
			}
		}
	}
	for _, l := range lists {
		for i := range cap(l) {
			l[:cap(l)][i] = nil
		}
	}
}

// TestP1306Memory: no call changes what it was given, nor its spare room, nor keeps it; spans share no memory with it, nor with one another; the same call tells the same again.
func TestP1306Memory(t *testing.T) {
	lists := 0
	for _, a := range cases() {
		before := a.whole()
		unchanged := func() bool {
			now := a.whole()
			return reflect.DeepEqual(now.nodes, before.nodes) && reflect.DeepEqual(now.matrices, before.matrices) && reflect.DeepEqual(now.lists, before.lists)
		}
		got, again := a.all(), a.all()
		if !unchanged() || !got.same(again) {
			t.Fatalf("what was given has changed, or another answer: %v", before.nodes)
		}
		lists += len(got.ahead) + len(got.back)
		apart(t, got.ahead, got.back)
		if !unchanged() {
			t.Fatalf("a span shares memory with what was given: %v", before.nodes)
		}
		kept := again
		kept.ahead, kept.back = copiesOf(again.ahead), copiesOf(again.back)
		if once := a.all(); !once.same(kept) {
			t.Fatalf("another answer: %v", before.nodes)
		}
		a.spoil()
		if !again.same(kept) {
			t.Fatalf("an answer keeps what was given: %v", before.nodes)
		}
	}
	if lists < 1000 {
		t.Errorf("%d lists are told", lists)
	}
}

// TestP1306Alone: however many ask at once, and whatever was asked ahead, each is answered the same.
func TestP1306Alone(t *testing.T) {
	var work sync.WaitGroup
	for _, a := range cases() {
		want := a.all()
		for range 3 {
			work.Go(func() {
				if got := a.all(); !got.same(want) {
					t.Errorf("another answer of %v", a.tape)
				}
			})
		}
	}
	work.Wait()
}

// TestP1306Ends: ints at their ends, wherever they may stand, are refused as both ways do.
func TestP1306Ends(t *testing.T) {
	for _, n := range ends {
		for _, m := range []api.Matrix{
			{Rows: n, Cols: n, Width: n, Bits: []int{n, n}}, {Rows: n, Cols: 2, Width: 64, Bits: []int{1, 2}}, {Rows: 1, Cols: n, Width: 64, Bits: []int{1, 2}},
			{Rows: 1, Cols: 2, Width: n, Bits: []int{1, 2}}, {Rows: 1, Cols: 2, Width: 64, Bits: []int{n, n}}, {Rows: 1, Cols: 2, Width: 32, Bits: []int{n, n}},
		} {
			x := right()
			x.inputs = list(m)
			wantAll(t, "a direction", x)
			x = right()
			x.node, x.seed = 0, m
			wantAll(t, "a seed", x)
			x = right()
			x.values[0] = m
			wantAll(t, "a value", x)
		}
		for _, node := range []api.Node{takes(n, 0), takes(api.OpNeg, n), input(n, n, n, n), numbers(api.OpForm, n, n, 0)} {
			wantAll(t, "a node", told{tapeOf(input(0, 1, 2, 64), node), list(good, good), list(good), nil, 1, good})
		}
		x := right()
		x.node = n
		wantAll(t, "which node", x)
	}
}

// TestP1306Great: great matrices and long tapes.
func TestP1306Great(t *testing.T) {
	r := rand.New(rand.NewSource(3))
	made := tapeOf(input(0, 64, 64, 64), param(0, 64, 64, 64), takes(api.OpProduct, 0, 1))
	values := valuesOf(t, made, list(some(r, 64, 64, 64)), list(some(r, 64, 64, 64)))
	x := told{made, values, list(ones(values[0])), list(zeros(values[1])), 2, ones(values[2])}
	if got, f := x.tell(); f != (api.Fault{}) || got.Forward != got.Reverse || got.ForwardSpan != got.ReverseSpan || got.ForwardSpan.Lo != got.Forward {
		t.Errorf("a product of great matrices: %x %v", got, f) // The numbers are quarters, and not many.
	}
	made = tapeOf(input(0, 1, 4096, 32), takes(api.OpSoftmax, 0), takes(api.OpLogSoft, 0), numbers(api.OpForm, 4096, 1, 0), takes(api.OpProduct, 0, 3))
	values = valuesOf(t, made, list(some(r, 1, 4096, 32)), nil)
	for node, m := range values {
		x = told{made, values, list(near(r, 1, 4096, 32)), nil, node, near(r, m.Rows, m.Cols, m.Width)}
		if got, f := x.tell(); f != (api.Fault{}) || !inSpan(got.ForwardSpan, got.Forward, 32) || !inSpan(got.ReverseSpan, got.Reverse, 32) {
			t.Errorf("a long row, node %d: %x %v", node, got, f)
		}
	}
	values = valuesOf(t, long(api.MaxNodes), list(mat(1, 1, 64, 5)), nil)
	x = told{long(api.MaxNodes), values, list(mat(1, 1, 64, 7)), nil, api.MaxNodes - 1, mat(1, 1, 64, 3)}
	wantTold(t, "a long tape", x, -21, -21, row(-21, -21), row(-21, -21))
}
