package eval_test

import (
	"math/rand"
	"reflect"
	"slices"
	"sync"
	"testing"

	"pupil/api"
	"pupil/eval"
)

// asked is what Run and Check are given, laid into longer lists, with something ahead of each and spare room behind it.
type asked struct {
	tape                   api.Tape
	inputs, params, values []api.Matrix
	nodes                  []api.Node
	matrices               [][]api.Matrix
	lists                  [][]int
}

// guard lays a list into a longer one.
func (a *asked) guard(l []int) []int {
	full := slices.Concat([]int{-7, -8}, l, []int{-9, -10, -11})
	a.lists = append(a.lists, full)
	return full[2 : 2+len(l)]
}

// guardAll lays matrices into a longer list, their bits too.
func (a *asked) guardAll(l []api.Matrix) []api.Matrix {
	full := slices.Concat([]api.Matrix{{Rows: -1}}, l, []api.Matrix{{Rows: -2}, {Rows: -3}})
	for i := range l {
		full[i+1].Bits = a.guard(l[i].Bits)
	}
	a.matrices = append(a.matrices, full)
	return full[1 : 1+len(l)]
}

func guarded(t api.Tape, inputs, params, values []api.Matrix) *asked {
	a := &asked{nodes: slices.Concat([]api.Node{{Op: -5}}, t.Nodes, []api.Node{{Op: -6}, {Op: -7}})}
	for i := range t.Nodes {
		a.nodes[i+1].In, a.nodes[i+1].Bits = a.guard(t.Nodes[i].In), a.guard(t.Nodes[i].Bits)
	}
	a.tape.Nodes = a.nodes[1 : 1+len(t.Nodes)]
	a.inputs, a.params, a.values = a.guardAll(inputs), a.guardAll(params), a.guardAll(values)
	return a
}

// whole tells all that stands in it, in memory of its own.
func (a *asked) whole() asked {
	var w asked
	w.nodes = cloned(api.Tape{Nodes: a.nodes}).Nodes
	for _, l := range a.matrices {
		w.matrices = append(w.matrices, copies(l))
	}
	for _, l := range a.lists {
		w.lists = append(w.lists, slices.Clone(l))
	}
	return w
}

// spoil writes over all of it.
func (a *asked) spoil() {
	for _, l := range a.lists {
		fillInts(l)
	}
	for _, l := range a.matrices {
		fillMatrices(l)
	}
	for i := range a.nodes {
		a.nodes[i] = api.Node{Op: 99}
	}
}

// fillInts and fillMatrices write over a list and its spare room.
func fillInts(l []int) {
	for i := range cap(l) {
		l[:cap(l)][i] = -99
	}
}

func fillMatrices(l []api.Matrix) {
	for i := range cap(l) {
		l[:cap(l)][i] = api.Matrix{Rows: -99}
	}
}

// cases has tapes of every operation, mixed ones, ones that stop and ones that are refused.
func cases() []*asked {
	var l []*asked
	for _, width := range widths {
		inputs, params := ofEvery(width)
		values, _ := eval.Run(every(width), inputs, params)
		l = append(l, guarded(every(width), inputs, params, values), guarded(every(width), inputs, nil, values[1:]))
	}
	for seed := range int64(20) {
		r := rand.New(rand.NewSource(500 + seed))
		made := grown(r, 15)
		inputs, params := fill(r, made)
		values, _ := eval.Run(made, inputs, params)
		l = append(l, guarded(made, inputs, params, values))
		l = append(l, guarded(made, spoil(r, inputs), params, spoil(r, values)))
	}
	for _, x := range refused() {
		l = append(l, guarded(x.tape, list(good), list(tall), list(good, tall)))
	}
	// Nodes that move all elements as they are, and one that is taken twice.
	same := tapeOf(input(0, 1, 2, 64), numbers(api.OpForm, 1, 2, 0), numbers(api.OpCutCols, 0, 2, 1), numbers(api.OpCutRows, 0, 1, 2), takes(api.OpGlueRows, 3), takes(api.OpGlueCols, 4, 4), constant(good), numbers(api.OpForm, 1, 2, 6), param(0, 1, 2, 64), takes(api.OpRelu, 8))
	values, _ := eval.Run(same, list(good), list(good))
	return append(l, guarded(same, list(good), list(good), values))
}

// TestP1005Memory: no call changes what it was given, nor its spare room, nor keeps it; values share no memory with it.
func TestP1005Memory(t *testing.T) {
	for _, a := range cases() {
		before := a.whole()
		unchanged := func() bool {
			now := a.whole()
			return reflect.DeepEqual(now.nodes, before.nodes) && reflect.DeepEqual(now.matrices, before.matrices) && reflect.DeepEqual(now.lists, before.lists)
		}
		got, f := eval.Run(a.tape, a.inputs, a.params)
		again, g := eval.Run(a.tape, a.inputs, a.params)
		h := eval.Check(a.tape, a.values)
		if !unchanged() || f != g || !sameAll(got, again) || h != eval.Check(a.tape, a.values) {
			t.Fatalf("what was given has changed, or another answer: %v", before.nodes)
		}
		want := copies(got)
		for i, m := range got {
			fillInts(m.Bits)
			want[i].Bits = nil
			for k := i + 1; k < len(got); k++ {
				if !same(got[k], want[k]) {
					t.Fatalf("values share memory: nodes %d and %d of %v", i, k, before.nodes)
				}
			}
		}
		fillMatrices(got)
		if !unchanged() {
			t.Fatalf("a value shares memory with what was given: %v", before.nodes)
		}
		kept := copies(again)
		a.spoil()
		if !sameAll(again, kept) {
			t.Fatalf("a value keeps what was given: %v", before.nodes)
		}
	}
}

// TestP1005Alone: however many ask at once, and whatever was asked ahead, each is answered the same.
func TestP1005Alone(t *testing.T) {
	var work sync.WaitGroup
	for _, a := range cases() {
		want, f := eval.Run(a.tape, a.inputs, a.params)
		c := eval.Check(a.tape, a.values)
		for range 3 {
			work.Go(func() {
				if got, g := eval.Run(a.tape, a.inputs, a.params); g != f || !sameAll(got, want) || eval.Check(a.tape, a.values) != c {
					t.Errorf("another answer of %v", a.tape)
				}
			})
		}
	}
	work.Wait()
}

// TestP1005Great: great matrices and long tapes.
func TestP1005Great(t *testing.T) {
	made := tapeOf(input(0, 64, 64, 64), param(0, 64, 64, 64), takes(api.OpProduct, 0, 1), takes(api.OpSub, 2, 2), takes(api.OpSum, 3))
	r := rand.New(rand.NewSource(3))
	values, f := eval.Run(made, list(some(r, 64, 64, 64)), list(some(r, 64, 64, 64)))
	if f != (api.Fault{}) || !same(values[4], mat(1, 1, 64, 0)) {
		t.Errorf("a product of great matrices: %v", f)
	}
	wantCheck(t, "great", made, values, api.Fault{})
	values[3].Bits[4095] = 1
	wantCheck(t, "the last place", made, values, api.Fault{Err: api.ErrBits, Node: 3, At: 4095})
	values, f = eval.Run(long(api.MaxNodes), list(mat(1, 1, 64, 5)), nil)
	if f != (api.Fault{}) || len(values) != api.MaxNodes || !same(values[api.MaxNodes-1], mat(1, 1, 64, -5)) {
		t.Errorf("a long tape: %v", f)
	}
	wantCheck(t, "long", long(api.MaxNodes), values, api.Fault{})
}
