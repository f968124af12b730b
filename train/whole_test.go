package train_test

import (
	"math/big"
	"math/rand"
	"testing"

	"pupil/api"
	"pupil/train"
)

// W8: linear nets of whole numbers train as whole-number arithmetic says, while the width has all numbers.

// line is a plan whose loss is (x w + b - y)^2, with two columns of x.
func line(width int) api.Plan {
	return planOf(5, 7, input(0, 1, 2, width), input(1, 1, 1, width), param(0, 2, 1, width), param(1, 1, 1, width),
		takes(api.OpProduct, 0, 2), takes(api.OpAdd, 4, 3), takes(api.OpSub, 5, 1), takes(api.OpMul, 6, 6))
}

// has tells whether a width has all these numbers.
func has(width int, l ...*big.Rat) bool {
	for _, x := range l {
		exact := false
		if width == 32 {
			_, exact = x.Float32()
		} else {
			_, exact = x.Float64()
		}
		if !exact {
			return false
		}
	}
	return true
}

func product(a, b *big.Rat) *big.Rat { return new(big.Rat).Mul(a, b) }

func sum(a, b *big.Rat) *big.Rat { return new(big.Rat).Add(a, b) }

func whole(n int) *big.Rat { return new(big.Rat).SetInt64(int64(n)) }

// numbersOf tells the values of a matrix.
func numbersOf(m api.Matrix) []*big.Rat {
	var l []*big.Rat
	for _, b := range m.Bits {
		l = append(l, new(big.Rat).SetFloat64(value(b, m.Width)))
	}
	return l
}

// exactStep makes a step of the line in exact numbers: the new parameters w, w, b and the loss; false: the width has not all numbers on the way.
func exactStep(s api.Set, rows []int, at []*big.Rat, speed *big.Rat, width int) ([]*big.Rat, *big.Rat, bool) {
	x, y := numbersOf(s.X), numbersOf(s.Y)
	loss, grads := whole(0), []*big.Rat{whole(0), whole(0), whole(0)}
	ok := true
	for _, r := range rows {
		takes := []*big.Rat{x[2*r], x[2*r+1], whole(1)}
		made := whole(0)
		for i := range 3 {
			made = sum(made, product(takes[i], at[i]))
		}
		off := sum(made, product(whole(-1), y[r]))
		square := product(off, off)
		loss = sum(loss, square)
		ok = ok && has(width, made, off, square, product(whole(2), off), sum(product(takes[0], at[0]), product(takes[1], at[1])))
		for i := range 3 {
			slope := product(product(whole(2), off), takes[i])
			ok = ok && has(width, slope)
			grads[i] = sum(grads[i], slope)
		}
	}
	share := new(big.Rat).SetFrac64(1, int64(len(rows)))
	var next []*big.Rat
	for i := range 3 {
		slope := product(grads[i], share)
		step := product(speed, slope)
		to := sum(at[i], product(whole(-1), step))
		ok = ok && has(width, slope, step, to)
		next = append(next, to)
	}
	return next, product(loss, share), ok && has(width, product(loss, share))
}

// TestWholeNumbers: whole trainings against exact arithmetic, until a number comes that the width has not.
func TestWholeNumbers(t *testing.T) {
	r := rand.New(rand.NewSource(8))
	for _, w := range widths {
		steps := 0
		for round := range 60 {
			rows := 1 << r.Intn(4)
			p, s := line(w), api.Set{X: matrix(rows, 2, w), Y: matrix(rows, 1, w)}
			for range rows {
				s.X.Bits = append(s.X.Bits, pattern(float64(r.Intn(7)-3), w), pattern(float64(r.Intn(7)-3), w))
				s.Y.Bits = append(s.Y.Bits, pattern(float64(r.Intn(21)-10), w))
			}
			p.Batch, p.Seed = 1<<r.Intn(4), round
			speed := new(big.Rat).SetFrac64(1, 1<<r.Intn(6))
			rate, _ := speed.Float64()
			p.Schedule.Base = bitsOf(rate)
			x, at := begun(t, p, s), []*big.Rat{whole(0), whole(0), whole(0)}
			for {
				taken, _ := train.Rows(p, s, x)
				next, loss, ok := exactStep(s, taken, at, speed, w)
				if !ok || x.Step == 30 {
					break
				}
				y, _, where, e := train.Step(p, s, x)
				if e != api.OK {
					t.Fatalf("%v, %v", where, e)
				}
				got := append(numbersOf(y.Params[0]), numbersOf(y.Params[1])...)
				for i := range 3 {
					if got[i].Cmp(next[i]) != 0 {
						t.Fatalf("round %d, step %d, %d: %v, want %v", round, x.Step, i, got[i], next[i])
					}
				}
				if y.Loss != nearest(loss, w) {
					t.Fatalf("round %d, step %d: the loss %x, want %v", round, x.Step, y.Loss, loss)
				}
				x, at = y, next
				steps++
			}
		}
		if steps < 150 {
			t.Errorf("width %d: %d steps", w, steps)
		}
	}
}

// TestWholeSettled: a training of whole numbers comes to its end, and stays there.
func TestWholeSettled(t *testing.T) {
	for _, w := range widths {
		p, s := line(w), api.Set{X: vals(2, 2, w, 1, 0, 0, 1), Y: vals(2, 1, w, 4, -6)}
		p.Batch, p.Schedule.Base = 2, bitsOf(0.5)
		// Each step takes a part of what is off: in the end next to nothing is.
		x := behind(t, p, s, 200)
		loss, outs, _, e := train.Eval(p, x.Params, s, []int{0, 1})
		if e != api.OK || value(loss, w) > 1e-6 || value(outs[0].Bits[0], w) < 3.99 || value(outs[1].Bits[0], w) > -5.99 {
			t.Errorf("%v, %v, %v", value(loss, w), outs, e)
		}
	}
}
