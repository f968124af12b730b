package loss

import (
	"pupil/api"
	"pupil/bits"
)

// The losses of two nodes.
const (
	squared = iota
	absolute
	huber
	cross
	logistic
	hinge
)

// given is what a loss of two nodes is handed beside the tape.
type given struct {
	y, want int
	delta   int // Huber's alone
}

// losses tells of each loss the function that puts its nodes, the loss itself last.
func losses() map[int]func(*sheet, given) {
	return map[int]func(*sheet, given){
		squared:  (*sheet).squared,
		absolute: (*sheet).absolute,
		huber:    (*sheet).huber,
		cross:    (*sheet).cross,
		logistic: (*sheet).logistic,
		hinge:    (*sheet).hinge,
	}
}

func (s *sheet) squared(g given) {
	apart := s.op(api.OpSub, g.y, g.want)
	squares := s.op(api.OpMul, apart, apart)
	s.op(api.OpMean, squares)
}

func (s *sheet) absolute(g given) {
	apart := s.op(api.OpSub, g.y, g.want)
	far := s.op(api.OpAbs, apart)
	s.op(api.OpMean, far)
}

func (s *sheet) huber(g given) {
	if !bits.Less(0, g.delta, 64) {
		s.refuse(api.ErrArg)
	}
	apart := s.op(api.OpSub, g.y, g.want)
	far := s.op(api.OpAbs, apart)
	delta := s.number(g.delta)
	over := s.op(api.OpSub, far, delta)
	beyond := s.op(api.OpRelu, over)
	within := s.op(api.OpSub, far, beyond)
	half := s.number(bits.Of(0.5))
	halves := s.op(api.OpMul, within, half)
	mids := s.op(api.OpSub, far, halves)
	costs := s.op(api.OpMul, within, mids)
	s.op(api.OpMean, costs)
}

func (s *sheet) cross(g given) {
	logs := s.op(api.OpLogSoft, g.y)
	weighed := s.op(api.OpMul, logs, g.want)
	sum := s.op(api.OpSum, weighed)
	rows := s.number(bits.FromInt(s.shape(g.y).Rows, 64))
	mean := s.op(api.OpDiv, sum, rows)
	s.op(api.OpNeg, mean)
}

func (s *sheet) logistic(g given) {
	all := s.op(api.OpSoftplus, g.y)
	right := s.op(api.OpMul, g.y, g.want)
	costs := s.op(api.OpSub, all, right)
	s.op(api.OpMean, costs)
}

func (s *sheet) hinge(g given) {
	margins := s.op(api.OpMul, g.y, g.want)
	one := s.number(bits.Of(1))
	short := s.op(api.OpSub, one, margins)
	costs := s.op(api.OpRelu, short)
	s.op(api.OpMean, costs)
}

// sizes tells of each kind of cost the function that puts what each element of a node costs.
func sizes() map[int]func(*sheet, int) int {
	return map[int]func(*sheet, int) int{
		api.CostAbs:    func(s *sheet, node int) int { return s.op(api.OpAbs, node) },
		api.CostSquare: func(s *sheet, node int) int { return s.op(api.OpMul, node, node) },
	}
}

// penalty puts what some nodes, at least one, cost, and y besides.
func (s *sheet) penalty(y int, nodes []int, size func(*sheet, int) int, factor int) {
	var sums []int
	for _, node := range nodes {
		sums = append(sums, s.op(api.OpSum, size(s, node)))
		if s.err != nil {
			return // The list may be far longer than a tape.
		}
	}
	total := sums[0]
	for _, sum := range sums[1:] {
		total = s.op(api.OpAdd, total, sum)
	}
	cost := s.op(api.OpMul, total, s.number(factor))
	s.op(api.OpAdd, y, cost)
}
