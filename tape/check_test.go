package tape_test

import (
	"math/rand"
	"slices"
	"testing"

	"pupil/api"
	"pupil/tape"
)

// looked holds what Check, Inputs and Params tell of a tape against the reference.
func looked(t *testing.T, made api.Tape) {
	t.Helper()
	want, fault := checkOf(made)
	if shapes, f := tape.Check(made); f != fault || !slices.Equal(shapes, want) {
		t.Errorf("Check(%v): %v, %v; want %v, %v", made, shapes, f, want, fault)
	}
	for i, call := range []func(api.Tape) ([]int, api.Errno){tape.Inputs, tape.Params} {
		var nodes []int
		if fault.Err == api.OK {
			nodes = standing(made, api.OpInput+i)
		}
		if got, e := call(made); e != fault.Err || !slices.Equal(got, nodes) {
			t.Errorf("operation %d of %v: %v, %v; want %v, %v", api.OpInput+i, made, got, e, nodes, fault.Err)
		}
	}
}

// TestP902Empty: a tape without nodes is right.
func TestP902Empty(t *testing.T) {
	for _, made := range []api.Tape{{}, tapeOf(), {Nodes: make([]api.Node, 0, 4)}} {
		if shapes, f := tape.Check(made); f != (api.Fault{}) || len(shapes) != 0 {
			t.Errorf("%v, %v", shapes, f)
		}
		looked(t, made)
	}
	looked(t, tapeOf(constant(1, 1, 64, 0)))
	looked(t, tapeOf(api.Node{}))
}

// TestP902Nodes: the first node that is not right, wherever it stands, ahead of numbers that are missing.
func TestP902Nodes(t *testing.T) {
	for _, width := range widths {
		full, _ := all(every(width))
		for at := range full.Nodes {
			for later := at; later < len(full.Nodes); later++ {
				wrong := cloned(full)
				wrong.Nodes[later].Op = -1
				wrong.Nodes[at].In = []int{-1, -1, -1, -1, -1}
				_, f := tape.Check(wrong)
				want := api.Fault{Err: api.ErrArg, Node: at}
				switch op := full.Nodes[at].Op; {
				case at == later:
					want.Err = api.ErrOp
				case op == api.OpGlueCols || op == api.OpGlueRows:
					want.Err = api.ErrNode
				}
				if f != want {
					t.Errorf("wrong at %d and %d: %v; want %v", at, later, f, want)
				}
				looked(t, wrong)
			}
		}
	}
	for _, x := range []struct {
		made api.Tape
		want api.Fault
	}{
		{tapeOf(input(3, 1, 1, 64), takes(api.OpNeg, 1)), api.Fault{Err: api.ErrNode, Node: 1}},
		{tapeOf(param(1, 1, 1, 64), takes(api.OpNeg, 0), takes(api.OpForm, 0)), api.Fault{Err: api.ErrShape, Node: 2}},
		{tapeOf(takes(api.OpNeg, 0), input(0, 1, 1, 64)), api.Fault{Err: api.ErrNode}},
	} {
		if shapes, f := tape.Check(x.made); f != x.want || len(shapes) != 0 {
			t.Errorf("%v: %v, %v; want %v", x.made, shapes, f, x.want)
		}
	}
}

// TestP902Missing: all sets of inputs, and many of parameters, in some order, among other nodes.
func TestP902Missing(t *testing.T) {
	r := rand.New(rand.NewSource(902))
	for set := range 1 << 8 {
		var made api.Tape
		for _, number := range r.Perm(8) {
			if set>>number&1 == 1 {
				made = behind(made, input(number, 1, 1, 64), takes(api.OpNeg, len(made.Nodes)))
			}
		}
		least := 0
		for set>>least&1 == 1 {
			least++
		}
		var want api.Fault
		if set+1 != 1<<least {
			want = api.Fault{Err: api.ErrInput, Node: len(made.Nodes), At: least}
		}
		if _, f := tape.Check(made); f != want {
			t.Errorf("inputs %b: %v; want %v", set, f, want)
		}
		looked(t, made)
		looked(t, behind(made, param(1, 1, 1, 64)))
		looked(t, behind(made, param(0, 1, 1, 64)))
	}
	for missing := range 64 {
		made := tapeOf(input(0, 1, 1, 64))
		for _, number := range r.Perm(64) {
			if number != missing {
				made = behind(made, param(number, 1, 1, 64))
			}
		}
		want := api.Fault{Err: api.ErrParam, Node: 64, At: missing}
		if missing == 63 {
			want = api.Fault{}
		}
		if _, f := tape.Check(made); f != want {
			t.Errorf("without parameter %d: %v; want %v", missing, f, want)
		}
		looked(t, made)
		// A second one that is missing, above the least or below it.
		made.Nodes = slices.Delete(made.Nodes, 40, 41)
		looked(t, made)
		// Inputs are looked at first.
		made.Nodes[0].A = 7
		if _, f := tape.Check(made); f != (api.Fault{Err: api.ErrInput, Node: len(made.Nodes)}) {
			t.Errorf("without input 0: %v", f)
		}
	}
}

// TestP903Missing: numbers that are missing don't matter to Put.
func TestP903Missing(t *testing.T) {
	made := api.Tape{}
	for i, n := range []api.Node{input(7, 1, 1, 64), param(63, 1, 1, 64), takes(api.OpAdd, 0, 1), input(3, 1, 1, 64), param(0, 2, 2, 32), takes(api.OpMul, 2, 3)} {
		next, number, e := tape.Put(made, n)
		if e != api.OK || number != i || !sameTape(next, behind(made, n)) {
			t.Fatalf("Put(%v): %v, %d, %v", n, next, number, e)
		}
		if _, f := tape.Check(next); f.Err != api.ErrInput || f.Node != i+1 {
			t.Errorf("Check: %v", f)
		}
		made = next
	}
	faulty(t, made, input(7, 1, 1, 64), api.ErrInput, 0)
	faulty(t, made, param(63, 1, 1, 64), api.ErrParam, 0)
}

// TestP903Wrong: the first node that is not right, of the tape or behind it.
func TestP903Wrong(t *testing.T) {
	good, wrong := takes(api.OpNeg, 0), takes(api.OpNeg, 9)
	for _, x := range []struct {
		made api.Tape
		n    api.Node
		want api.Errno
	}{
		{net(), wrong, api.ErrNode},
		{behind(net(), wrong), good, api.ErrNode},
		{behind(net(), wrong), api.Node{Op: -1}, api.ErrNode},
		{behind(net(), api.Node{Op: -1}, wrong), good, api.ErrOp},
		{tapeOf(constant(1, 1, 64, api.NaN)), api.Node{}, api.ErrNaN},
		{api.Tape{}, good, api.ErrNode},
		{api.Tape{}, api.Node{}, api.ErrOp},
	} {
		if made, number, e := tape.Put(x.made, x.n); e != x.want || number != 0 || len(made.Nodes) != 0 {
			t.Errorf("Put(%v, %v): %v, %d, %v; want %v", x.made, x.n, made, number, e, x.want)
		}
	}
}

// TestP904Order: the nodes by their numbers, in whatever order they stand.
func TestP904Order(t *testing.T) {
	r := rand.New(rand.NewSource(904))
	for round := range 60 {
		made := tapeOf(constant(1, 1, 32, 0))
		inputs, params := make([]int, r.Intn(9)), make([]int, r.Intn(65))
		if round == 0 {
			inputs, params = make([]int, 8), make([]int, 64)
		}
		for _, number := range r.Perm(len(inputs) + len(params)) {
			if number < len(inputs) {
				inputs[number] = len(made.Nodes)
				made = behind(made, input(number, 1, 2, 64))
			} else {
				params[number-len(inputs)] = len(made.Nodes)
				made = behind(made, param(number-len(inputs), 2, 1, 64))
			}
			if r.Intn(3) == 0 {
				made = behind(made, takes(api.OpNeg, r.Intn(len(made.Nodes))))
			}
		}
		if got, e := tape.Inputs(made); e != api.OK || !slices.Equal(got, inputs) {
			t.Errorf("Inputs: %v, %v; want %v", got, e, inputs)
		}
		if got, e := tape.Params(made); e != api.OK || !slices.Equal(got, params) {
			t.Errorf("Params: %v, %v; want %v", got, e, params)
		}
		looked(t, made)
	}
	// What is missing of the one is an error of the other too.
	for _, x := range []struct {
		made api.Tape
		want api.Errno
	}{
		{tapeOf(input(1, 1, 1, 64), param(0, 1, 1, 64)), api.ErrInput},
		{tapeOf(input(0, 1, 1, 64), param(1, 1, 1, 64)), api.ErrParam},
		{tapeOf(input(0, 1, 1, 64), api.Node{Op: 99}), api.ErrOp},
	} {
		inputs, e := tape.Inputs(x.made)
		params, f := tape.Params(x.made)
		if e != x.want || f != x.want || len(inputs)+len(params) != 0 {
			t.Errorf("%v: %v, %v and %v, %v; want %v", x.made, inputs, e, params, f, x.want)
		}
	}
}

// TestP902Mixed: tapes of many nodes, right ones and spoilt ones, against the reference.
func TestP902Mixed(t *testing.T) {
	r := rand.New(rand.NewSource(9020))
	told := map[api.Errno]int{}
	for seed := range int64(60) {
		good := grown(seed, 40)
		looked(t, good)
		for range 100 {
			wrong := spoilt(good, r)
			looked(t, wrong)
			_, f := tape.Check(wrong)
			told[f.Err]++
			at := len(wrong.Nodes) - 1
			_, want := rightOf(wrong)
			made, number, e := tape.Put(api.Tape{Nodes: wrong.Nodes[:at]}, wrong.Nodes[at])
			if e != want.Err || e == api.OK && (number != at || !sameTape(made, wrong)) || e != api.OK && (number != 0 || len(made.Nodes) != 0) {
				t.Errorf("Put(%v): %d, %v; want %v", wrong, number, e, want.Err)
			}
		}
	}
	for _, e := range []api.Errno{api.OK, api.ErrArg, api.ErrLong, api.ErrWidth, api.ErrShape, api.ErrIndex, api.ErrBits, api.ErrOp, api.ErrNode, api.ErrParam, api.ErrInput, api.ErrNaN, api.ErrInf} {
		if told[e] == 0 {
			t.Errorf("no tape was refused with %d", e)
		}
	}
}
