package optim

import (
	"slices"

	"pupil/api"
	"pupil/tensor"
)

// step is what a step is asked with.
type step struct {
	rule  api.Rule
	rate  int
	w, g  api.Matrix
	slots []api.Matrix
}

// check tells why a step can't be made.
func (s step) check() api.Errno {
	if e := checkParameter(s.rule, s.w); e != api.OK {
		return e
	}
	if _, ok := size(s.rate, s.w.Width); !ok {
		return api.ErrArg
	}
	if _, e := tensor.Finite(s.g); e != api.OK {
		return e
	}
	if e := tensor.Fits(s.g, api.Shape{Rows: s.w.Rows, Cols: s.w.Cols, Width: s.w.Width}); e != api.OK {
		return e
	}
	return s.checkSlots()
}

// checkSlots tells whether the slots are such as the rule keeps.
func (s step) checkSlots() api.Errno {
	if !slices.Equal(tensor.Shapes(s.slots), tensor.Shapes(fresh(s.rule.Kind, s.w))) {
		return api.ErrState
	}
	for _, m := range s.slots {
		if _, e := tensor.Finite(m); e != api.OK {
			return api.ErrState
		}
	}
	return api.OK
}

// columns are the bits that stand side by side: a parameter's, its first slot's, its second one's.
type columns struct{ w, v, s []int }

// columnsOf tells a parameter's columns. A slot that its rule does not keep is a list of noughts, into which nothing else comes either.
func columnsOf(w api.Matrix, slots []api.Matrix) columns {
	kept := [2][]int{make([]int, len(w.Bits)), make([]int, len(w.Bits))}
	for i := range min(len(kept), len(slots)) {
		kept[i] = slots[i].Bits
	}
	return columns{w.Bits, kept[0], kept[1]}
}

// learn makes a step that was checked, in the floats of a width, which are told of bits and as bits.
func learn[F floats](s step, float func(b int) F, told func(f F) int) (api.Matrix, []api.Matrix, int, api.Errno) {
	w, slots := noughts(s.w), fresh(s.rule.Kind, s.w)
	from, to := columnsOf(s.w, s.slots), columnsOf(w, slots)
	n, becomes := paceOf(s, float), ruleOf[F](s.rule.Kind)
	for i := range len(from.w) {
		x := element[F]{w: float(from.w[i]), g: float(s.g.Bits[i]), v: float(from.v[i]), s: float(from.s[i])}
		x.g = n.gradient(x)
		x = becomes(n, x)
		if e := x.fault(); e != api.OK {
			return api.Matrix{}, nil, i, e
		}
		to.w[i], to.v[i], to.s[i] = told(x.w), told(x.v), told(x.s)
	}
	if s.rule.Kind == api.RuleAdam {
		slots[powers].Bits = []int{told(n.p), told(n.q)}
	}
	return w, slots, 0, api.OK
}
