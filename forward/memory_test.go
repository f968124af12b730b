package forward_test

import (
	"math/rand"
	"reflect"
	"slices"
	"sync"
	"testing"

	"pupil/api"
	"pupil/eval"
	"pupil/forward"
)

// asked is what Run is given, laid into longer lists, with something ahead of each and spare room behind it.
type asked struct {
	tape                   api.Tape
	inputs, params, values []api.Matrix
	nodes                  []api.Node
	matrices               [][]api.Matrix
	lists                  [][]int
}

// guard lays a list into a longer one.
func (a *asked) guard(l []int) []int {
	full := slices.Concat([]int{-7, -8}, l, []int{-9, -10, -11})
	a.lists = append(a.lists, full)
	return full[2 : 2+len(l)]
}

// guardAll lays matrices into a longer list, their bits too.
func (a *asked) guardAll(l []api.Matrix) []api.Matrix {
	full := slices.Concat([]api.Matrix{{Rows: -1}}, l, []api.Matrix{{Rows: -2}, {Rows: -3}})
	for i := range l {
		full[i+1].Bits = a.guard(l[i].Bits)
	}
	a.matrices = append(a.matrices, full)
	return full[1 : 1+len(l)]
}

func guarded(t api.Tape, inputs, params, values []api.Matrix) *asked {
	a := &asked{nodes: slices.Concat([]api.Node{{Op: -5}}, t.Nodes, []api.Node{{Op: -6}, {Op: -7}})}
	for i := range t.Nodes {
		a.nodes[i+1].In, a.nodes[i+1].Bits = a.guard(t.Nodes[i].In), a.guard(t.Nodes[i].Bits)
	}
	a.tape.Nodes = a.nodes[1 : 1+len(t.Nodes)]
	a.inputs, a.params, a.values = a.guardAll(inputs), a.guardAll(params), a.guardAll(values)
	return a
}

// whole tells all that stands in it, in memory of its own.
func (a *asked) whole() asked {
	var w asked
	w.nodes = cloned(api.Tape{Nodes: a.nodes}).Nodes
	for _, l := range a.matrices {
		w.matrices = append(w.matrices, copies(l))
	}
	for _, l := range a.lists {
		w.lists = append(w.lists, slices.Clone(l))
	}
	return w
}

// spoil writes over all of it.
func (a *asked) spoil() {
	for _, l := range a.lists {
		fillInts(l)
	}
	for _, l := range a.matrices {
		fillMatrices(l)
	}
	for i := range a.nodes {
		a.nodes[i] = api.Node{Op: 99}
	}
}

// fillInts and fillMatrices write over a list and its spare room.
func fillInts(l []int) {
	for i := range cap(l) {
		l[:cap(l)][i] = -99
	}
}

func fillMatrices(l []api.Matrix) {
	for i := range cap(l) {
		l[:cap(l)][i] = api.Matrix{Rows: -99}
	}
}

// cases has tapes of every operation, mixed ones, ones that stop and ones that are refused.
func cases() []*asked {
	var l []*asked
	r := rand.New(rand.NewSource(1))
	for _, width := range widths {
		inputs, params := ofEvery(width)
		values, _ := eval.Run(every(width), inputs, params)
		l = append(l, guarded(every(width), inputs, params, values), guarded(every(width), inputs, nil, values), guarded(every(width), inputs, params, values[1:]))
	}
	for seed := range int64(40) {
		made := grown(rand.New(rand.NewSource(500+seed)), 15)
		inputs, params := fill(r, made)
		values, f := eval.Run(made, inputs, params)
		if f != (api.Fault{}) {
			continue
		}
		in, pa := fill(r, made)
		l = append(l, guarded(made, in, pa, values), guarded(made, spoil(r, in), pa, values), guarded(made, in, pa, spoil(r, values)))
	}
	for _, x := range refused() {
		l = append(l, guarded(x.tape, list(good), list(tall), list(good, tall)))
	}
	root := tapeOf(input(0, 1, 2, 64), takes(api.OpNeg, 0), takes(api.OpSqrt, 1))
	l = append(l, guarded(root, list(good), nil, list(mat(1, 2, 64, neg0, neg0), mat(1, 2, 64, 0, 0), mat(1, 2, 64, 0, 0))))
	// Nodes that move all elements as they are, and one that is taken twice.
	same := tapeOf(input(0, 1, 2, 64), numbers(api.OpForm, 1, 2, 0), numbers(api.OpCutCols, 0, 2, 1), numbers(api.OpCutRows, 0, 1, 2), takes(api.OpGlueRows, 3), takes(api.OpGlueCols, 4, 4), constant(good), numbers(api.OpForm, 1, 2, 6), param(0, 1, 2, 64), takes(api.OpRelu, 8))
	values, _ := eval.Run(same, list(good), list(good))
	return append(l, guarded(same, list(good), list(good), values), guarded(same, values[:1], values[:1], values))
}

// TestP1104Memory: no call changes what it was given, nor its spare room, nor keeps it; tangents share no memory with it, nor with one another.
func TestP1104Memory(t *testing.T) {
	told := 0
	for _, a := range cases() {
		before := a.whole()
		unchanged := func() bool {
			now := a.whole()
			return reflect.DeepEqual(now.nodes, before.nodes) && reflect.DeepEqual(now.matrices, before.matrices) && reflect.DeepEqual(now.lists, before.lists)
		}
		got, f := forward.Run(a.tape, a.values, a.inputs, a.params)
		again, g := forward.Run(a.tape, a.values, a.inputs, a.params)
		if !unchanged() || f != g || !sameAll(got, again) {
			t.Fatalf("what was given has changed, or another answer: %v", before.nodes)
		}
		if f != (api.Fault{}) && len(got) > 0 {
			t.Fatalf("tangents beside a fault: %v", got)
		}
		told += len(got)
		want := copies(got)
		for i, m := range got {
			fillInts(m.Bits)
			want[i].Bits = nil
			for k := i + 1; k < len(got); k++ {
				if !same(got[k], want[k]) {
					t.Fatalf("tangents share memory: nodes %d and %d of %v", i, k, before.nodes)
				}
			}
		}
		fillMatrices(got)
		if !unchanged() {
			t.Fatalf("a tangent shares memory with what was given: %v", before.nodes)
		}
		kept := copies(again)
		a.spoil()
		if !sameAll(again, kept) {
			t.Fatalf("a tangent keeps what was given: %v", before.nodes)
		}
	}
	if told < 200 {
		t.Errorf("%d tangents are told", told)
	}
}

// TestP1104Alone: however many ask at once, and whatever was asked ahead, each is answered the same.
func TestP1104Alone(t *testing.T) {
	var work sync.WaitGroup
	for _, a := range cases() {
		want, f := forward.Run(a.tape, a.values, a.inputs, a.params)
		for range 3 {
			work.Go(func() {
				if got, g := forward.Run(a.tape, a.values, a.inputs, a.params); g != f || !sameAll(got, want) {
					t.Errorf("another answer of %v", a.tape)
				}
			})
		}
	}
	work.Wait()
}

// TestP1104Ends: ints at their ends, wherever they may stand, are refused as the chapter says.
func TestP1104Ends(t *testing.T) {
	values := list(good, tall, mat(1, 1, 64, 0), mat(1, 1, 64, 0))
	for _, n := range ends {
		for _, m := range []api.Matrix{
			{Rows: n, Cols: n, Width: n, Bits: []int{n, n}}, {Rows: n, Cols: 2, Width: 64, Bits: []int{1, 2}}, {Rows: 1, Cols: n, Width: 64, Bits: []int{1, 2}},
			{Rows: 1, Cols: 2, Width: n, Bits: []int{1, 2}}, {Rows: 1, Cols: 2, Width: 64, Bits: []int{n, n}}, {Rows: 1, Cols: 2, Width: 32, Bits: []int{n, n}},
		} {
			tangents, f := runOf(net(), values, list(m), list(tall))
			wantRun(t, "a direction", net(), values, list(m), list(tall), tangents, f)
			l := list(m, tall, values[2], values[3])
			tangents, f = runOf(net(), l, list(good), list(tall))
			wantRun(t, "a value", net(), l, list(good), list(tall), tangents, f)
		}
		for _, node := range []api.Node{takes(n, 0), takes(api.OpNeg, n), input(n, n, n, n), numbers(api.OpForm, n, n, 0)} {
			made := tapeOf(input(0, 1, 2, 64), node)
			tangents, f := runOf(made, list(good, good), list(good), nil)
			wantRun(t, "a node", made, list(good, good), list(good), nil, tangents, f)
		}
	}
}

// TestP1104Great: great matrices and long tapes.
func TestP1104Great(t *testing.T) {
	made := tapeOf(input(0, 64, 64, 64), param(0, 64, 64, 64), takes(api.OpProduct, 0, 1), takes(api.OpSub, 2, 2), takes(api.OpSum, 3), takes(api.OpMul, 0, 1), takes(api.OpSum, 5))
	r := rand.New(rand.NewSource(3))
	values := valuesOf(t, made, list(some(r, 64, 64, 64)), list(some(r, 64, 64, 64)))
	tangents, f := forward.Run(made, values, list(some(r, 64, 64, 64)), list(some(r, 64, 64, 64)))
	if f != (api.Fault{}) || !same(tangents[4], mat(1, 1, 64, 0)) {
		t.Errorf("a product of great matrices: %v", f)
	}
	made = tapeOf(input(0, 1, 4096, 32), takes(api.OpSoftmax, 0), takes(api.OpLogSoft, 0), numbers(api.OpForm, 4096, 1, 0), takes(api.OpProduct, 0, 3))
	values = valuesOf(t, made, list(some(r, 1, 4096, 32)), nil)
	if tangents, f = forward.Run(made, values, list(some(r, 1, 4096, 32)), nil); f != (api.Fault{}) || len(tangents) != 5 {
		t.Errorf("a long row: %v", f)
	}
	values = valuesOf(t, long(api.MaxNodes), list(mat(1, 1, 64, 5)), nil)
	tangents, f = forward.Run(long(api.MaxNodes), values, list(mat(1, 1, 64, 7)), nil)
	if f != (api.Fault{}) || len(tangents) != api.MaxNodes || !same(tangents[api.MaxNodes-1], mat(1, 1, 64, -7)) {
		t.Errorf("a long tape: %v", f)
	}
}
