package tape_test

import (
	"slices"

	"pupil/api"
	"pupil/kernel"
	"pupil/tensor"
)

// The chapter's promises once more, word by word, without haste.

// rule is what chapter 8's table says of an operation; inputs, parameters and constants take no nodes.
type rule struct {
	takes   int  // how many nodes; -1: one or more
	numbers bool // whether it uses A and B
}

func ruleOf(op int) (rule, bool) {
	switch op {
	case api.OpInput, api.OpParam, api.OpConst:
		return rule{}, true
	case api.OpAdd, api.OpSub, api.OpMul, api.OpDiv, api.OpProduct:
		return rule{takes: 2}, true
	case api.OpNeg, api.OpRelu, api.OpAbs, api.OpExp, api.OpLog, api.OpTanh, api.OpSigmoid, api.OpSqrt, api.OpSoftplus, api.OpTurn:
		return rule{takes: 1}, true
	case api.OpSum, api.OpSumRows, api.OpSumCols, api.OpMean, api.OpGreatest, api.OpSoftmax, api.OpLogSoft, api.OpWide, api.OpNarrow:
		return rule{takes: 1}, true
	case api.OpForm, api.OpCutCols, api.OpCutRows, api.OpWindow:
		return rule{takes: 1, numbers: true}, true
	case api.OpGlueCols, api.OpGlueRows:
		return rule{takes: -1}, true
	}
	return rule{}, false
}

// fieldsOf tells P901's third: whether a field that is not used holds something, or the number of nodes is another.
func fieldsOf(n api.Node, r rule) bool {
	right := n.B == 0 || r.numbers
	right = right && (n.A == 0 || r.numbers || n.Op == api.OpInput || n.Op == api.OpParam)
	right = right && (len(n.Bits) == 0 || n.Op == api.OpConst)
	right = right && (n.Rows == 0 && n.Cols == 0 && n.Width == 0 || n.Op <= api.OpConst)
	if r.takes == -1 {
		return right && len(n.In) > 0
	}
	return right && len(n.In) == r.takes
}

// nodeOf tells P901: what is wrong with a node behind right ones, and at which place; else its shape.
func nodeOf(ahead []api.Node, shapes []api.Shape, n api.Node) (api.Errno, int, api.Shape) {
	if len(ahead) == 1024 {
		return api.ErrLong, 0, api.Shape{}
	}
	r, ok := ruleOf(n.Op)
	if !ok {
		return api.ErrOp, 0, api.Shape{}
	}
	if !fieldsOf(n, r) {
		return api.ErrArg, 0, api.Shape{}
	}
	var in []api.Shape
	for at, number := range n.In {
		if number < 0 || number >= len(ahead) {
			return api.ErrNode, at, api.Shape{}
		}
		in = append(in, shapes[number])
	}
	if n.Op > api.OpConst {
		s, e := kernel.Shape(n.Op, n.A, n.B, in)
		return e, 0, s
	}
	if _, e := tensor.Zero(n.Rows, n.Cols, n.Width); e != api.OK {
		return e, 0, api.Shape{}
	}
	if e, at := leafOf(ahead, n); e != api.OK {
		return e, at, api.Shape{}
	}
	return api.OK, 0, api.Shape{Rows: n.Rows, Cols: n.Cols, Width: n.Width}
}

// leafOf tells P901's sixth and seventh.
func leafOf(ahead []api.Node, n api.Node) (api.Errno, int) {
	if n.Op == api.OpConst {
		m := api.Matrix{Rows: n.Rows, Cols: n.Cols, Width: n.Width, Bits: n.Bits}
		if e := tensor.Check(m); e != api.OK {
			return e, 0
		}
		at, e := tensor.Finite(m)
		return e, at
	}
	limit, e := 8, api.ErrInput
	if n.Op == api.OpParam {
		limit, e = 64, api.ErrParam
	}
	has := func(other api.Node) bool { return other.Op == n.Op && other.A == n.A }
	if n.A < 0 || n.A >= limit || slices.ContainsFunc(ahead, has) {
		return e, 0
	}
	return api.OK, 0
}

// rightOf tells the first node that is not right; else the shapes.
func rightOf(t api.Tape) ([]api.Shape, api.Fault) {
	var shapes []api.Shape
	for i, n := range t.Nodes {
		e, at, s := nodeOf(t.Nodes[:i], shapes, n)
		if e != api.OK {
			return nil, api.Fault{Err: e, Node: i, At: at}
		}
		shapes = append(shapes, s)
	}
	return shapes, api.Fault{}
}

// checkOf tells P902.
func checkOf(t api.Tape) ([]api.Shape, api.Fault) {
	shapes, f := rightOf(t)
	if f.Err != api.OK {
		return nil, f
	}
	for i, e := range []api.Errno{api.ErrInput, api.ErrParam} {
		var has []int
		for _, n := range t.Nodes {
			if n.Op == api.OpInput+i {
				has = append(has, n.A)
			}
		}
		slices.Sort(has)
		for least, number := range has {
			if number != least {
				return nil, api.Fault{Err: e, Node: len(t.Nodes), At: least}
			}
		}
	}
	return shapes, api.Fault{}
}

// standing tells P904: the nodes of an operation, by their numbers.
func standing(t api.Tape, op int) []int {
	var list []int
	for number := range 64 {
		for i, n := range t.Nodes {
			if n.Op == op && n.A == number {
				list = append(list, i)
			}
		}
	}
	return list
}

// neededOf tells P905: it goes over all nodes, until no one more comes in.
func neededOf(t api.Tape, node int) []int {
	list := []int{node}
	for i := 0; i < len(list); i++ {
		for _, number := range t.Nodes[list[i]].In {
			if !slices.Contains(list, number) {
				list = append(list, number)
			}
		}
	}
	slices.Sort(list)
	return list
}

// pruneOf tells P906.
func pruneOf(t api.Tape, node int) (api.Tape, []int) {
	old := slices.Concat(neededOf(t, node), standing(t, api.OpInput), standing(t, api.OpParam))
	slices.Sort(old)
	old = slices.Compact(old)
	var made api.Tape
	for _, number := range old {
		n := t.Nodes[number]
		n.In = nil
		for _, taken := range t.Nodes[number].In {
			n.In = append(n.In, slices.Index(old, taken))
		}
		made.Nodes = append(made.Nodes, n)
	}
	return made, old
}
