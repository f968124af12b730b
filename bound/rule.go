package bound

import (
	"slices"

	"pupil/api"
	"pupil/kernel"
	"pupil/sure"
)

// step is what a rule is given: a node, its value, and the values of the nodes that it takes. All of it is finite.
type step struct {
	node  api.Node
	value api.Matrix
	in    []api.Matrix
}

// spot is where an element stands that is taken: at which place of the node, and where in its matrix.
type spot [2]int

// expression is what an element is made of: the terms, the c of each by where its element stands, and by what their sum is divided; 0: by nothing.
type expression struct {
	terms map[spot]api.Num
	by    api.Num
}

// sumOf tells the expression of so many terms, without any yet.
func sumOf(count int) expression { return expression{terms: make(map[spot]api.Num, count)} }

// add adds a term; those of one place and one element meet.
func (x expression) add(at spot, c api.Num) { x.terms[at] = sure.Add(x.terms[at], c) }

// numbers tells the values of a matrix's elements.
func numbers(m api.Matrix) []api.Num {
	list := make([]api.Num, len(m.Bits))
	for i, b := range m.Bits {
		list[i] = sure.Of(b, m.Width)
	}
	return list
}

// stretched tells where the element of a matrix stands that comes to a row and a column.
func stretched(m api.Matrix, r, c int) int { return r%m.Rows*m.Cols + c%m.Cols }

// element is one of a node's elements, as exact numbers: what it takes at its first and at its last place, and itself.
type element struct{ x, u, y api.Num }

// factor tells a number from an element.
type factor func(e element) api.Num

func one(element) api.Num      { return sure.Int(1) }
func lessOne(element) api.Num  { return sure.Int(-1) }
func first(e element) api.Num  { return e.x }
func second(e element) api.Num { return e.u }
func itself(e element) api.Num { return e.y }

// each is the rule of a term for each place.
func each(factors ...factor) func(s step) func(to int) expression {
	return divided(func(element) api.Num { return api.Num{} }, factors...)
}

// divided is the rule of a term for each place, and of a divisor.
func divided(by factor, factors ...factor) func(s step) func(to int) expression {
	return func(s step) func(to int) expression {
		return func(to int) expression {
			r, c := to/s.value.Cols, to%s.value.Cols
			number := func(m api.Matrix) api.Num { return sure.Of(m.Bits[stretched(m, r, c)], m.Width) }
			e := element{x: number(s.in[0]), u: number(s.in[len(s.in)-1]), y: number(s.value)}
			x := sumOf(len(factors))
			x.by = by(e)
			for place, f := range factors {
				x.add(spot{place, stretched(s.in[place], r, c)}, f(e))
			}
			return x
		}
	}
}

// softplus has the rule of OpExp, with the sigmoid for the value.
func softplus(s step) func(to int) expression {
	s.value, _ = kernel.Do(api.OpSigmoid, 0, 0, s.in)
	return each(itself)(s)
}

// inner is the rule of products: each element takes a row of the first, and a column of the second.
func inner(s step) func(to int) expression {
	across, down := numbers(s.in[0]), numbers(s.in[1])
	length, cols := s.in[0].Cols, s.value.Cols
	return func(to int) expression {
		x := sumOf(2 * length)
		for k := range length {
			i, j := to/cols*length+k, k*cols+to%cols
			x.add(spot{0, i}, down[j])
			x.add(spot{1, j}, across[i])
		}
		return x
	}
}

// moved takes of each element the one that came there. The operation itself tells which one that is: it moves, as bits, the elements' numbers.
func moved(s step) func(to int) expression {
	var homes []spot
	numbered := make([]api.Matrix, len(s.in))
	for place, m := range s.in {
		numbered[place] = api.Matrix{Rows: m.Rows, Cols: m.Cols, Width: 64}
		for at := range m.Bits {
			numbered[place].Bits = append(numbered[place].Bits, len(homes))
			homes = append(homes, spot{place, at})
		}
	}
	came, _ := kernel.Do(s.node.Op, s.node.A, s.node.B, numbered)
	return func(to int) expression { return alone(homes[came.Bits[to]]) }
}

// alone tells the expression of one element as it is.
func alone(at spot) expression {
	x := sumOf(1)
	x.add(at, sure.Int(1))
	return x
}

// greatest takes each row's place.
func greatest(s step) func(to int) expression {
	places, _ := kernel.Places(s.in[0])
	return func(to int) expression { return alone(spot{0, stretched(s.in[0], to, places[to])}) }
}

// summed takes all elements that a sum, stretched, would come to.
func summed(s step) func(to int) expression {
	m := s.in[0]
	return func(to int) expression {
		x := sumOf(len(m.Bits) / len(s.value.Bits))
		for r := to / s.value.Cols; r < m.Rows; r += s.value.Rows {
			for c := to % s.value.Cols; c < m.Cols; c += s.value.Cols {
				x.add(spot{0, stretched(m, r, c)}, sure.Int(1))
			}
		}
		return x
	}
}

// mean divides their sum by how many there are.
func mean(s step) func(to int) expression {
	told := summed(s)
	return func(to int) expression {
		x := told(to)
		x.by = sure.Int(len(x.terms))
		return x
	}
}

// softmax mixes rows by the value.
func softmax(s step) mixture {
	y := numbers(s.value)
	return mixture{cols: s.value.Cols, own: y, share: y, weight: y}
}

// logSoft mixes rows by the value's powers.
func logSoft(s step) mixture {
	powers, _ := kernel.Do(api.OpExp, 0, 0, []api.Matrix{s.value})
	ones := slices.Repeat([]api.Num{sure.Int(1)}, len(s.value.Bits))
	return mixture{cols: s.value.Cols, own: ones, share: ones, weight: numbers(powers)}
}
