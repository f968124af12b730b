package block_test

import (
	"math"
	"math/big"
	"slices"
	"strconv"
	"strings"

	"pupil/api"
	"pupil/tape"
)

// The chapter's promises once more, in its own words, put one by one by chapter 9's Put.

// named tells the names of the nodes that a call is handed, and what it puts. (n) is the node that was put n-th; A and B are named behind what an operation takes.
func (c call) named() (string, string) {
	switch c.name {
	case "Linear":
		return "x w", "Product x w"
	case "Dense":
		return "x w b", "Product x w; Add (1) b"
	case "Act":
		return "x", "op x"
	case "Residual":
		return "x y", "Add x y"
	case "Conv":
		return "x w b", "Window x A size B step; Product (1) w; Add (2) b; Form (3) A 1 B elements"
	case "Pool":
		if c.args[1] == api.PoolGreatest {
			return "x", "Form x A lines B size; Greatest (1); Form (2) A rows B groups"
		}
		return "x", "Form x A lines B size; SumRows (1); Const size; Div (2) (3); Form (4) A rows B groups"
	case "Gather":
		words, all := "", "GlueRows"
		for i := range c.ids {
			words += "CutRows table A from" + strconv.Itoa(i) + " B to" + strconv.Itoa(i) + "; "
			all += " (" + strconv.Itoa(i+1) + ")"
		}
		return "table", words + all
	case "Norm":
		return "x gain bias", "SumRows x; Const d; Div (1) (2); Sub x (3); Mul (4) (4); SumRows (5); Div (6) (2); Const eps; Add (7) (8); Sqrt (9); Div (4) (10); Mul (11) gain; Add (12) bias"
	case "Gate":
		return "x w b u c", "Product x w; Add (1) b; Sigmoid (2); Product x u; Add (4) c; Tanh (5); Mul (3) (6)"
	case "Recur":
		return "x h w u b", "Product x w; Product h u; Add (1) (2); Add (3) b; Tanh (4)"
	case "Attend":
		return "q k v", "Turn k; Product q (1); Const root; Div (2) (3); Softmax (4); Product (5) v"
	}
	return "x", "Const mask; Mul x (1)"
}

// opOf tells an operation by its name.
func opOf(name string) int {
	names := map[string]int{
		"Add": api.OpAdd, "Sub": api.OpSub, "Mul": api.OpMul, "Div": api.OpDiv, "Tanh": api.OpTanh, "Sigmoid": api.OpSigmoid, "Sqrt": api.OpSqrt,
		"Product": api.OpProduct, "Turn": api.OpTurn, "Form": api.OpForm, "CutRows": api.OpCutRows, "GlueRows": api.OpGlueRows, "Window": api.OpWindow,
		"SumRows": api.OpSumRows, "Greatest": api.OpGreatest, "Softmax": api.OpSoftmax,
	}
	return names[name]
}

// shapesOf tells the shapes of a tape's nodes, whichever numbers its inputs and parameters have, or the Err of the first node that is not right.
func shapesOf(t api.Tape) ([]api.Shape, api.Errno) {
	if _, f := tape.Check(t); f.Err != api.OK && f.Node < len(t.Nodes) {
		return nil, f.Err
	}
	t = cloned(t)
	var count [3]int
	for i, n := range t.Nodes {
		if n.Op == api.OpInput || n.Op == api.OpParam {
			t.Nodes[i].A = count[n.Op]
			count[n.Op]++
		}
	}
	shapes, f := tape.Check(t)
	return shapes, f.Err
}

// says tells the errors that a call names itself, of right nodes.
func (c call) says(shapes []api.Shape) api.Errno {
	x := shapes[c.nodes[0]]
	switch c.name {
	case "Act":
		if c.args[0] < 20 || c.args[0] > 28 {
			return api.ErrOp
		}
	case "Pool":
		if c.args[0] < 1 || c.args[1] != 0 && c.args[1] != 1 {
			return api.ErrArg
		}
		if x.Cols/c.args[0]*c.args[0] != x.Cols {
			return api.ErrShape
		}
	case "Gather":
		if len(c.ids) == 0 {
			return api.ErrArg
		}
	case "Residual":
		y := shapes[c.nodes[1]]
		if x.Width != y.Width {
			return api.ErrWidth
		}
		if x.Rows != y.Rows || x.Cols != y.Cols {
			return api.ErrShape
		}
	}
	return api.OK
}

// floatOf tells the bits of a number in a width, rounded once.
func floatOf(x *big.Float, width int) int {
	if width == 32 {
		f, _ := x.Float32()
		return int(math.Float32bits(f))
	}
	f, _ := x.Float64()
	return int(math.Float64bits(f))
}

func wholeOf(n, width int) int { return floatOf(new(big.Float).SetInt64(int64(n)), width) }

func rootOf(n, width int) int {
	return floatOf(new(big.Float).SetPrec(500).Sqrt(new(big.Float).SetPrec(500).SetInt64(int64(n))), width)
}

// narrowedOf tells a binary64 in a width.
func narrowedOf(eps, width int) int {
	switch f := math.Float64frombits(uint64(eps)); {
	case f == f:
		return floatOf(new(big.Float).SetFloat64(f), width)
	case width == 32:
		return api.NaN32
	}
	return api.NaN
}

// number tells a number by its name.
func (c call) number(name string, x api.Shape) int {
	at := func(prefix string) int {
		i, _ := strconv.Atoi(strings.TrimPrefix(name, prefix))
		return c.ids[i]
	}
	switch {
	case name == "size":
		return c.args[0]
	case name == "step":
		return c.args[1]
	case name == "rows":
		return x.Rows
	case name == "d":
		return x.Cols
	case name == "groups":
		return x.Cols / c.args[0]
	case name == "lines":
		return x.Rows * x.Cols / c.args[0]
	case strings.HasPrefix(name, "from"):
		return at("from")
	case strings.HasPrefix(name, "to"):
		return at("to") + 1
	}
	n, _ := strconv.Atoi(name)
	return n
}

// constantOf tells a constant by its name.
func (c call) constantOf(name string, x api.Shape) api.Node {
	switch name {
	case "mask":
		return constant(c.mask.Rows, c.mask.Cols, c.mask.Width, c.mask.Bits...)
	case "eps":
		return constant(1, 1, x.Width, narrowedOf(c.args[0], x.Width))
	case "root":
		return constant(1, 1, x.Width, rootOf(x.Cols, x.Width))
	}
	return constant(1, 1, x.Width, wholeOf(c.number(name, x), x.Width))
}

// node tells a node by its words. The nodes that were put stand from base on.
func (c call) node(words string, t api.Tape, base int, x api.Shape) api.Node {
	names, _ := c.named()
	list := strings.Fields(words)
	if list[0] == "Const" {
		return c.constantOf(list[1], x)
	}
	n := api.Node{Op: opOf(list[0])}
	if list[0] == "op" {
		n.Op = c.args[0]
	}
	for i := 1; i < len(list); i++ {
		switch word := list[i]; {
		case word == "A":
			n.A = c.number(list[i+1], x)
			i++
		case word == "B" && list[i+1] == "elements":
			shapes, _ := shapesOf(t)
			n.B = shapes[n.In[0]].Rows * shapes[n.In[0]].Cols
			i++
		case word == "B":
			n.B = c.number(list[i+1], x)
			i++
		case word[0] == '(':
			number, _ := strconv.Atoi(strings.Trim(word, "()"))
			n.In = append(n.In, base+number-1)
		default:
			n.In = append(n.In, c.nodes[slices.Index(strings.Fields(names), word)])
		}
	}
	return n
}

// said tells what a call must answer.
func (c call) said(t api.Tape) (api.Tape, int, api.Errno) {
	shapes, e := shapesOf(t)
	if e != api.OK {
		return api.Tape{}, 0, e
	}
	for _, node := range c.nodes {
		if node < 0 || node >= len(t.Nodes) {
			return api.Tape{}, 0, api.ErrNode
		}
	}
	if e := c.says(shapes); e != api.OK {
		return api.Tape{}, 0, e
	}
	_, all := c.named()
	last, made := 0, t
	for words := range strings.SplitSeq(all, ";") {
		made, last, e = tape.Put(made, c.node(words, made, len(t.Nodes), shapes[c.nodes[0]]))
		if e != api.OK {
			return api.Tape{}, 0, e
		}
	}
	return made, last, api.OK
}
