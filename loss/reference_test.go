package loss_test

import (
	"math"
	"math/big"
	"strconv"
	"strings"

	"pupil/api"
	"pupil/tape"
)

// The chapter's promises once more, in its own words, put one by one by chapter 9's Put.

// words tells what a call puts. (n) is the node that was put n-th, n0, n1, .. are Penalty's nodes.
func (c call) words() string {
	switch c.name {
	case "Squared":
		return "Sub y want; Mul (1) (1); Mean (2)"
	case "Absolute":
		return "Sub y want; Abs (1); Mean (2)"
	case "Huber":
		return "Sub y want; Abs (1); Const delta; Sub (2) (3); Relu (4); Sub (2) (5); Const 0.5; Mul (6) (7); Sub (2) (8); Mul (6) (9); Mean (10)"
	case "Cross":
		return "LogSoft y; Mul (1) want; Sum (2); Const rows; Div (3) (4); Neg (5)"
	case "Logistic":
		return "Softplus y; Mul y want; Sub (1) (2); Mean (3)"
	case "Hinge":
		return "Mul y want; Const 1; Sub (2) (1); Relu (3); Mean (4)"
	}
	return c.penaltyWords()
}

// penaltyWords tells what Penalty puts: two nodes of each node, one less sums of two than there are nodes, and three more.
func (c call) penaltyWords() string {
	var l []string
	for i := range c.nodes {
		node := " n" + strconv.Itoa(i)
		if c.kind == api.CostAbs {
			l = append(l, "Abs"+node)
		} else {
			l = append(l, "Mul"+node+node)
		}
		l = append(l, "Sum"+placed(2*i+1))
	}
	sum := placed(2)
	for i := 1; i < len(c.nodes); i++ {
		l = append(l, "Add"+sum+placed(2*i+2))
		sum = placed(len(l))
	}
	l = append(l, "Const factor")
	l = append(l, "Mul"+sum+placed(len(l)))
	return strings.Join(append(l, "Add y"+placed(len(l))), ";")
}

func placed(n int) string { return " (" + strconv.Itoa(n) + ")" }

// opOf tells an operation by its name.
func opOf(name string) int {
	return map[string]int{
		"Add": api.OpAdd, "Sub": api.OpSub, "Mul": api.OpMul, "Div": api.OpDiv, "Neg": api.OpNeg, "Relu": api.OpRelu, "Abs": api.OpAbs, "Softplus": api.OpSoftplus,
		"Sum": api.OpSum, "Mean": api.OpMean, "LogSoft": api.OpLogSoft,
	}[name]
}

// shapesOf tells the shapes of a tape's nodes, whichever numbers its inputs and parameters have, or the Err of the first node that is not right.
func shapesOf(t api.Tape) ([]api.Shape, api.Errno) {
	if _, f := tape.Check(t); f.Err != api.OK && f.Node < len(t.Nodes) {
		return nil, f.Err
	}
	t = cloned(t)
	var count [3]int
	for i, n := range t.Nodes {
		if n.Op == api.OpInput || n.Op == api.OpParam {
			t.Nodes[i].A = count[n.Op]
			count[n.Op]++
		}
	}
	shapes, f := tape.Check(t)
	return shapes, f.Err
}

// says tells the errors that a call names itself, of right nodes.
func (c call) says(shapes []api.Shape) api.Errno {
	y := shapes[c.y]
	if c.name == "Penalty" {
		if y.Rows != 1 || y.Cols != 1 {
			return api.ErrShape
		}
		if len(c.nodes) == 0 || c.kind != 1 && c.kind != 2 {
			return api.ErrArg
		}
		return api.OK
	}
	want := shapes[c.want]
	if y.Width != want.Width {
		return api.ErrWidth
	}
	if y.Rows != want.Rows || y.Cols != want.Cols {
		return api.ErrShape
	}
	if c.name == "Huber" && !(math.Float64frombits(uint64(c.delta)) > 0) {
		return api.ErrArg
	}
	return api.OK
}

// floatOf tells a binary64 in a width, rounded once.
func floatOf(f float64, width int) int {
	switch {
	case f != f && width == 32:
		return api.NaN32
	case f != f:
		return api.NaN
	case width == 32:
		narrow, _ := new(big.Float).SetFloat64(f).Float32()
		return int(math.Float32bits(narrow))
	}
	return int(math.Float64bits(f))
}

// float tells a constant's number by its name.
func (c call) float(name string, y api.Shape) float64 {
	switch name {
	case "delta":
		return math.Float64frombits(uint64(c.delta))
	case "factor":
		return math.Float64frombits(uint64(c.factor))
	case "rows":
		return float64(y.Rows)
	}
	f, _ := strconv.ParseFloat(name, 64)
	return f
}

// node tells a node by its words. The nodes that were put stand from base on.
func (c call) node(words string, base int, y api.Shape) api.Node {
	list := strings.Fields(words)
	if list[0] == "Const" {
		return constant(1, 1, y.Width, floatOf(c.float(list[1], y), y.Width))
	}
	n := api.Node{Op: opOf(list[0])}
	for _, word := range list[1:] {
		number, _ := strconv.Atoi(strings.Trim(word, "()n"))
		switch {
		case word == "y":
			number = c.y
		case word == "want":
			number = c.want
		case word[0] == 'n':
			number = c.nodes[number]
		default:
			number += base - 1
		}
		n.In = append(n.In, number)
	}
	return n
}

// list tells the nodes that a call puts behind a tape of so many nodes.
func (c call) list(base int, y api.Shape) []api.Node {
	var l []api.Node
	for words := range strings.SplitSeq(c.words(), ";") {
		l = append(l, c.node(words, base, y))
	}
	return l
}

// said tells what a call must answer.
func (c call) said(t api.Tape) (api.Tape, int, api.Errno) {
	shapes, e := shapesOf(t)
	if e != api.OK {
		return api.Tape{}, 0, e
	}
	handed := []int{c.y, c.want}
	if c.name == "Penalty" {
		handed = append([]int{c.y}, c.nodes...)
	}
	for _, node := range handed {
		if node < 0 || node >= len(t.Nodes) {
			return api.Tape{}, 0, api.ErrNode
		}
	}
	if e := c.says(shapes); e != api.OK {
		return api.Tape{}, 0, e
	}
	last, made := 0, t
	for _, n := range c.list(len(t.Nodes), shapes[c.y]) {
		made, last, e = tape.Put(made, n)
		if e != api.OK {
			return api.Tape{}, 0, e
		}
	}
	return made, last, api.OK
}
