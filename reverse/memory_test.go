package reverse_test

import (
	"math/rand"
	"reflect"
	"slices"
	"sync"
	"testing"

	"pupil/acc"
	"pupil/api"
	"pupil/eval"
	"pupil/reverse"
)

// asked is what Run is given, laid into longer lists, with something ahead of each and spare room behind it.
type asked struct {
	tape     api.Tape
	values   []api.Matrix
	node     int
	seed     api.Matrix
	nodes    []api.Node
	matrices [][]api.Matrix
	lists    [][]int
}

// guard lays a list into a longer one.
func (a *asked) guard(l []int) []int {
	full := slices.Concat([]int{-7, -8}, l, []int{-9, -10, -11})
	a.lists = append(a.lists, full)
	return full[2 : 2+len(l)]
}

// guardAll lays matrices into a longer list, their bits too.
func (a *asked) guardAll(l []api.Matrix) []api.Matrix {
	full := slices.Concat([]api.Matrix{{Rows: -1}}, l, []api.Matrix{{Rows: -2}, {Rows: -3}})
	for i := range l {
		full[i+1].Bits = a.guard(l[i].Bits)
	}
	a.matrices = append(a.matrices, full)
	return full[1 : 1+len(l)]
}

func guarded(t api.Tape, values []api.Matrix, node int, seed api.Matrix) *asked {
	a := &asked{node: node, seed: seed, nodes: slices.Concat([]api.Node{{Op: -5}}, t.Nodes, []api.Node{{Op: -6}, {Op: -7}})}
	for i := range t.Nodes {
		a.nodes[i+1].In, a.nodes[i+1].Bits = a.guard(t.Nodes[i].In), a.guard(t.Nodes[i].Bits)
	}
	a.tape.Nodes = a.nodes[1 : 1+len(t.Nodes)]
	a.values = a.guardAll(values)
	a.seed.Bits = a.guard(seed.Bits)
	return a
}

// whole tells all that stands in it, in memory of its own.
func (a *asked) whole() asked {
	var w asked
	w.nodes = cloned(api.Tape{Nodes: a.nodes}).Nodes
	for _, l := range a.matrices {
		w.matrices = append(w.matrices, copies(l))
	}
	for _, l := range a.lists {
		w.lists = append(w.lists, slices.Clone(l))
	}
	return w
}

// spoil writes over all of it.
func (a *asked) spoil() {
	for _, l := range a.lists {
		fillInts(l)
	}
	for _, l := range a.matrices {
		fillMatrices(l)
	}
	for i := range a.nodes {
		a.nodes[i] = api.Node{Op: 99}
	}
}

// fillInts and fillMatrices write over a list and its spare room.
func fillInts(l []int) {
	for i := range cap(l) {
		l[:cap(l)][i] = -99
	}
}

func fillMatrices(l []api.Matrix) {
	for i := range cap(l) {
		l[:cap(l)][i] = api.Matrix{Rows: -99}
	}
}

// run goes back over it.
func (a *asked) run() ([]api.Matrix, api.Fault) { return reverse.Run(a.tape, a.values, a.node, a.seed) }

// cases has tapes of every operation, mixed ones, ones that stop and ones that are refused.
func cases() []*asked {
	var l []*asked
	r := rand.New(rand.NewSource(1))
	for _, width := range widths {
		inputs, params := ofEvery(width)
		values, _ := eval.Run(every(width), inputs, params)
		for node, m := range values {
			l = append(l, guarded(every(width), values, node, near(r, m.Rows, m.Cols, m.Width)))
		}
		l = append(l, guarded(every(width), values[1:], 0, values[0]), guarded(every(width), values, 99, values[0]), guarded(every(width), values, 3, values[0]))
	}
	for seed := range int64(40) {
		made := grown(rand.New(rand.NewSource(500+seed)), 15)
		inputs, params := fill(r, made)
		values, f := eval.Run(made, inputs, params)
		if f != (api.Fault{}) {
			continue
		}
		node := len(values) - 1
		l = append(l, guarded(made, values, node, values[node]), guarded(made, values, node, append(spoil(r, values[node:]), api.Matrix{})[0]), guarded(made, spoil(r, values), node, values[node]))
	}
	for _, x := range refused() {
		l = append(l, guarded(x.tape, list(good, tall), 0, good))
	}
	root := tapeOf(input(0, 1, 2, 64), takes(api.OpNeg, 0), takes(api.OpSqrt, 1))
	l = append(l, guarded(root, list(mat(1, 2, 64, neg0, neg0), mat(1, 2, 64, 0, 0), mat(1, 2, 64, 0, 0)), 2, good))
	// Nodes that move all elements as they are, and one that is taken twice.
	same := tapeOf(input(0, 1, 2, 64), numbers(api.OpForm, 1, 2, 0), numbers(api.OpCutCols, 0, 2, 1), numbers(api.OpCutRows, 0, 1, 2), takes(api.OpGlueRows, 3), takes(api.OpGlueCols, 4, 4), constant(good), numbers(api.OpForm, 1, 2, 6), param(0, 1, 2, 64), takes(api.OpRelu, 8))
	values, _ := eval.Run(same, list(good), list(good))
	for node, m := range values {
		l = append(l, guarded(same, values, node, m))
	}
	return l
}

// TestP1205Memory: no call changes what it was given, nor its spare room, nor keeps it; adjoints share no memory with it, nor with one another.
func TestP1205Memory(t *testing.T) {
	told := 0
	for _, a := range cases() {
		before := a.whole()
		unchanged := func() bool {
			now := a.whole()
			return reflect.DeepEqual(now.nodes, before.nodes) && reflect.DeepEqual(now.matrices, before.matrices) && reflect.DeepEqual(now.lists, before.lists)
		}
		got, f := a.run()
		again, g := a.run()
		if !unchanged() || f != g || !sameAll(got, again) {
			t.Fatalf("what was given has changed, or another answer: %v", before.nodes)
		}
		if f != (api.Fault{}) && len(got) > 0 {
			t.Fatalf("adjoints beside a fault: %v", got)
		}
		told += len(got)
		want := copies(got)
		for i, m := range got {
			fillInts(m.Bits)
			want[i].Bits = nil
			for k := i + 1; k < len(got); k++ {
				if !same(got[k], want[k]) {
					t.Fatalf("adjoints share memory: nodes %d and %d of %v", i, k, before.nodes)
				}
			}
		}
		fillMatrices(got)
		if !unchanged() {
			t.Fatalf("an adjoint shares memory with what was given: %v", before.nodes)
		}
		kept := copies(again)
		a.spoil()
		if !sameAll(again, kept) {
			t.Fatalf("an adjoint keeps what was given: %v", before.nodes)
		}
	}
	if told < 200 {
		t.Errorf("%d adjoints are told", told)
	}
}

// TestP1205Alone: however many ask at once, and whatever was asked ahead, each is answered the same.
func TestP1205Alone(t *testing.T) {
	var work sync.WaitGroup
	for _, a := range cases() {
		want, f := a.run()
		for range 3 {
			work.Go(func() {
				if got, g := a.run(); g != f || !sameAll(got, want) {
					t.Errorf("another answer of %v", a.tape)
				}
			})
		}
	}
	work.Wait()
}

// TestP1205Ends: ints at their ends, wherever they may stand, are refused as the chapter says.
func TestP1205Ends(t *testing.T) {
	values := list(good, tall, mat(1, 1, 64, 0), mat(1, 1, 64, 0))
	for _, n := range ends {
		for _, m := range []api.Matrix{
			{Rows: n, Cols: n, Width: n, Bits: []int{n, n}}, {Rows: n, Cols: 2, Width: 64, Bits: []int{1, 2}}, {Rows: 1, Cols: n, Width: 64, Bits: []int{1, 2}},
			{Rows: 1, Cols: 2, Width: n, Bits: []int{1, 2}}, {Rows: 1, Cols: 2, Width: 64, Bits: []int{n, n}}, {Rows: 1, Cols: 2, Width: 32, Bits: []int{n, n}},
		} {
			adjoints, f := runOf(net(), values, 0, m)
			wantRun(t, "a seed", net(), values, 0, m, adjoints, f)
			l := list(m, tall, values[2], values[3])
			adjoints, f = runOf(net(), l, 3, mat(1, 1, 64, 1))
			wantRun(t, "a value", net(), l, 3, mat(1, 1, 64, 1), adjoints, f)
		}
		for _, node := range []api.Node{takes(n, 0), takes(api.OpNeg, n), input(n, n, n, n), numbers(api.OpForm, n, n, 0)} {
			made := tapeOf(input(0, 1, 2, 64), node)
			adjoints, f := runOf(made, list(good, good), 1, good)
			wantRun(t, "a node", made, list(good, good), 1, good, adjoints, f)
		}
		adjoints, f := runOf(net(), values, n, good)
		wantRun(t, "which node", net(), values, n, good, adjoints, f)
	}
}

// TestP1205Great: great matrices and long tapes.
func TestP1205Great(t *testing.T) {
	made := tapeOf(input(0, 64, 64, 64), param(0, 64, 64, 64), takes(api.OpProduct, 0, 1), takes(api.OpSub, 2, 2), takes(api.OpSum, 3), takes(api.OpMul, 0, 1), takes(api.OpSum, 5))
	r := rand.New(rand.NewSource(3))
	values := valuesOf(t, made, list(some(r, 64, 64, 64)), list(some(r, 64, 64, 64)))
	one := mat(1, 1, 64, 1)
	adjoints, f := reverse.Run(made, values, 4, one)
	if f != (api.Fault{}) || !same(adjoints[0], zeros(values[0])) || !same(adjoints[3], ones(values[3])) {
		t.Errorf("a product of great matrices: %v", f)
	}
	if adjoints, f = reverse.Run(made, values, 2, ones(values[2])); f != (api.Fault{}) || len(adjoints) != 7 {
		t.Errorf("a product of great matrices: %v", f)
	}
	for i := range 64 { // Each element of a row is brought the sum of one row.
		if sum, _ := acc.Sum(values[1].Bits[64*i:64*i+64], 64); f == (api.Fault{}) && adjoints[0].Bits[i] != sum {
			t.Fatalf("place %d: %x, want %x", i, adjoints[0].Bits[i], sum)
		}
	}
	made = tapeOf(input(0, 1, 4096, 32), takes(api.OpSoftmax, 0), takes(api.OpLogSoft, 0), numbers(api.OpForm, 4096, 1, 0), takes(api.OpProduct, 0, 3))
	values = valuesOf(t, made, list(some(r, 1, 4096, 32)), nil)
	for node, m := range values {
		if adjoints, f = reverse.Run(made, values, node, near(r, m.Rows, m.Cols, m.Width)); f != (api.Fault{}) || len(adjoints) != 5 {
			t.Errorf("a long row: %v", f)
		}
	}
	values = valuesOf(t, long(api.MaxNodes), list(mat(1, 1, 64, 5)), nil)
	adjoints, f = reverse.Run(long(api.MaxNodes), values, api.MaxNodes-1, mat(1, 1, 64, 7))
	if f != (api.Fault{}) || len(adjoints) != api.MaxNodes || !same(adjoints[0], mat(1, 1, 64, -7)) {
		t.Errorf("a long tape: %v", f)
	}
}
