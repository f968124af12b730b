package span_test

import (
	"math"
	"math/rand"
	"reflect"
	"slices"
	"sync"
	"testing"

	"pupil/api"
	"pupil/span"
)

func TestP501Valid(t *testing.T) {
	for _, w := range widths {
		for _, lo := range floats(w) {
			for _, hi := range floats(w) {
				if s := pair(lo, hi, w); span.Valid(s, w) != isInterval(s, w) {
					t.Errorf("Valid({%v %v}, %d) is %t", lo, hi, w, !isInterval(s, w))
				}
			}
		}
		for _, s := range noIntervals(w) {
			if span.Valid(s, w) {
				t.Errorf("Valid({%#x %#x}, %d)", s.Lo, s.Hi, w)
			}
		}
	}
	for _, w := range noWidths {
		for _, s := range []api.Span{{}, pair(1, 2, 64), pair(1, 2, 32), {Lo: 1, Hi: 1}} {
			if span.Valid(s, w) {
				t.Errorf("Valid({%#x %#x}, %d)", s.Lo, s.Hi, w)
			}
		}
	}
}

// TestP501Noughts: no answer has -0, wherever the noughts come from.
func TestP501Noughts(t *testing.T) {
	for _, w := range widths {
		below, zero, one := pattern(nought, w), api.Span{}, pattern(1, w)
		noughts := []api.Span{{}, {Hi: below}, {Lo: below}, {Lo: below, Hi: below}}
		got, e := span.Of(below, w)
		wants(t, got, e, zero, "Of", w)
		for _, s := range noughts {
			got, e = span.Neg(s, w)
			wants(t, got, e, zero, "Neg", s, w)
			got, e = span.Sum([]api.Span{s}, w)
			wants(t, got, e, zero, "Sum", s, w)
			for _, u := range noughts {
				for _, c := range []func(s, t api.Span, w int) (api.Span, api.Errno){span.Add, span.Sub, span.Mul, span.Join} {
					got, e = c(s, u, w)
					wants(t, got, e, zero, s, u, w)
				}
				met, ok, e := span.Meet(s, u, w)
				if wants(t, met, e, zero, "Meet", s, u, w); !ok {
					t.Errorf("Meet(%v, %v, %d): nothing", s, u, w)
				}
			}
			got, e = span.Mul(s, pair(-inf, inf, w), w)
			wants(t, got, e, zero, "Mul", s, w)
			got, e = span.Div(s, pair(-3, -1, w), w)
			wants(t, got, e, zero, "Div", s, w)
			got, e = span.Join(s, api.Span{Lo: one, Hi: one}, w)
			wants(t, got, e, api.Span{Hi: one}, "Join", s, w)
		}
		met, _, e := span.Meet(api.Span{Lo: below, Hi: one}, pair(-1, inf, w), w)
		wants(t, met, e, api.Span{Hi: one}, "Meet", w)
		met, _, e = span.Meet(pair(-1, nought, w), pair(-3, 3, w), w)
		wants(t, met, e, pair(-1, 0, w), "Meet", w)
		got, e = span.Neg(pair(0, 1, w), w)
		wants(t, got, e, pair(-1, 0, w), "Neg", w)
		got, e = span.Sub(pair(0, 1, w), pair(1, 3, w), w)
		wants(t, got, e, pair(-3, 0, w), "Sub", w)
		got, e = span.Mul(pair(-tiny(w), -tiny(w), w), pair(tiny(w), tiny(w), w), w)
		wants(t, got, e, pair(-tiny(w), 0, w), "Mul", w)
		got, e = span.Div(pair(-tiny(w), -tiny(w), w), pair(3, inf, w), w)
		wants(t, got, e, pair(-tiny(w), 0, w), "Div", w)
	}
}

func TestP502Of(t *testing.T) {
	for _, w := range widths {
		for _, f := range floats(w) {
			got, e := span.Of(pattern(f, w), w)
			if math.IsInf(f, 0) {
				refused(t, got, e, api.ErrBits, "Of", f, w)
				continue
			}
			wants(t, got, e, pair(f+0, f+0, w), "Of", f, w)
		}
		for _, b := range noNumbers(w) {
			got, e := span.Of(b, w)
			refused(t, got, e, api.ErrBits, "Of", b, w)
		}
	}
	for _, w := range noWidths {
		for _, b := range []int{0, pattern(1, 64), api.NaN, api.Inf32, -1} {
			got, e := span.Of(b, w)
			refused(t, got, e, api.ErrWidth, "Of", b, w)
		}
	}
}

// numbers tells exact numbers at the floats, close to them on both sides, half way, and far beyond them.
func numbers(w int) []real {
	list := []real{power(-2000), power(-2000).turned(), power(2000), power(2000).turned(), power(1024), power(128), power(1024).plus(power(-1074)).turned()}
	for _, f := range append(floats(w), 0.1, -1e10, normal(w)) {
		f = valueOf(pattern(f, w), w)
		if math.IsInf(f, 0) {
			continue
		}
		x := realOf(f)
		step := realOf(math.Abs(f)).by(power(w))
		list = append(list, x, x.plus(power(-1200)), x.plus(power(-1200).turned()), x.plus(step), x.plus(step.turned()))
	}
	return list
}

func TestP502Around(t *testing.T) {
	for _, w := range widths {
		for _, x := range numbers(w) {
			got, e := span.Around(x.num(), w)
			wants(t, got, e, outward(x, x, w), "Around", x.num(), w)
		}
		ends := []api.Span{pair(top(w), inf, w), pair(-inf, -top(w), w), pair(0, tiny(w), w), pair(-tiny(w), 0, w)}
		for i, x := range []api.Num{{Mag: []int{1}, Exp: api.MaxExp}, {Neg: true, Mag: []int{1}, Exp: api.MaxExp}, {Mag: []int{1}, Exp: -api.MaxExp}, {Neg: true, Mag: []int{1}, Exp: -api.MaxExp}} {
			got, e := span.Around(x, w)
			wants(t, got, e, ends[i], "Around", x, w)
		}
		for _, x := range noNums() {
			got, e := span.Around(x, w)
			refused(t, got, e, api.ErrNum, "Around", w)
		}
	}
	for _, w := range noWidths {
		for _, x := range append(noNums(), api.Num{}, api.Num{Mag: []int{1}}) {
			got, e := span.Around(x, w)
			refused(t, got, e, api.ErrWidth, "Around", w)
		}
	}
}

func TestP503Neg(t *testing.T) {
	for _, w := range widths {
		for _, s := range intervals(w) {
			got, e := span.Neg(s, w)
			wants(t, got, e, negOf(s, w), "Neg", s, w)
		}
	}
}

// against holds one of the calls of two intervals against the reference, at all pairs of edges and at some more. Quotients by what has 0 in it must be refused.
func against(t *testing.T, name string) {
	t.Helper()
	c := ofTwo()[slices.IndexFunc(ofTwo(), func(c called) bool { return c.name == name })]
	try := func(s, u api.Span, w int) {
		got, e := c.f(s, u, w)
		if name == "Div" && among(u, realOf(0), w) {
			refused(t, got, e, api.ErrDivide, name, s, u, w)
			return
		}
		wants(t, got, e, c.want(s, u, w), name, s, u, w)
		if e == api.OK && !span.Valid(got, w) {
			t.Errorf("%s(%v, %v, %d): no interval", name, s, u, w)
		}
	}
	r := rand.New(rand.NewSource(503))
	for _, w := range widths {
		for _, s := range intervals(w) {
			for _, u := range intervals(w) {
				try(s, u, w)
			}
		}
		for range 3000 {
			try(some(r, w), some(r, w), w)
		}
	}
}

func TestP503Add(t *testing.T) { against(t, "Add") }

func TestP503Sub(t *testing.T) { against(t, "Sub") }

func TestP504Mul(t *testing.T) { against(t, "Mul") }

func TestP504Div(t *testing.T) { against(t, "Div") }

func TestP506Join(t *testing.T) { against(t, "Join") }

// TestP503Ends: what rounds beyond the greatest floats, and below the least.
func TestP503Ends(t *testing.T) {
	for _, w := range widths {
		most := top(w)
		half := pair(beside(1, 2, w)-1, beside(1, 2, w)-1, w)
		for i, x := range []struct {
			f       func(s, t api.Span, w int) (api.Span, api.Errno)
			a, b, c api.Span
		}{
			{span.Add, pair(most, most, w), pair(most, most, w), pair(most, inf, w)},
			{span.Add, pair(-most, -most, w), pair(-most, -most, w), pair(-inf, -most, w)},
			{span.Sub, pair(-most, most, w), pair(-most, most, w), pair(-inf, inf, w)},
			{span.Add, pair(most, most, w), pair(tiny(w), tiny(w), w), pair(most, inf, w)},
			{span.Add, pair(most, most, w), pair(-tiny(w), -tiny(w), w), pair(beside(most, 0, w), most, w)},
			{span.Add, pair(-inf, 1, w), pair(1, inf, w), pair(-inf, inf, w)},
			{span.Add, pair(-inf, 1, w), pair(2, 3, w), pair(-inf, 4, w)},
			{span.Add, pair(1, 1, w), half, pair(beside(1, 2, w), beside(1, 2, w), w)},
			{span.Mul, pair(most, most, w), pair(-most, most, w), pair(-inf, inf, w)},
			{span.Mul, pair(most, most, w), pair(2, 2, w), pair(most, inf, w)},
			{span.Mul, pair(tiny(w), tiny(w), w), pair(0.5, 0.5, w), pair(0, tiny(w), w)},
			{span.Mul, pair(-inf, inf, w), pair(nought, 0, w), pair(0, 0, w)},
			{span.Mul, pair(-inf, -1, w), pair(-inf, -1, w), pair(1, inf, w)},
			{span.Mul, pair(-inf, 0, w), pair(1, inf, w), pair(-inf, 0, w)},
			{span.Div, pair(most, most, w), pair(tiny(w), tiny(w), w), pair(most, inf, w)},
			{span.Div, pair(tiny(w), tiny(w), w), pair(most, inf, w), pair(0, tiny(w), w)},
			{span.Div, pair(-inf, inf, w), pair(1, inf, w), pair(-inf, inf, w)},
			{span.Div, pair(1, inf, w), pair(-inf, -1, w), pair(-inf, 0, w)},
			{span.Div, pair(-inf, -1, w), pair(-inf, -2, w), pair(0, inf, w)},
			{span.Div, pair(3, 6, w), pair(-inf, -3, w), pair(-2, 0, w)},
		} {
			got, e := x.f(x.a, x.b, w)
			wants(t, got, e, x.c, i, w)
		}
	}
}

func TestP504DivByNought(t *testing.T) {
	for _, w := range widths {
		for _, d := range []api.Span{pair(0, 0, w), pair(nought, nought, w), pair(0, nought, w), pair(-1, 1, w), pair(0, 1, w), pair(nought, 1, w), pair(-1, 0, w), pair(-1, nought, w), pair(-inf, inf, w), pair(0, inf, w), pair(-inf, nought, w), pair(-tiny(w), tiny(w), w)} {
			for _, s := range []api.Span{pair(1, 2, w), pair(0, 0, w), pair(-inf, inf, w)} {
				got, e := span.Div(s, d, w)
				refused(t, got, e, api.ErrDivide, "Div", s, d, w)
			}
			for _, s := range noIntervals(w) {
				got, e := span.Div(s, d, w)
				refused(t, got, e, api.ErrArg, "Div", s, d, w)
			}
		}
		got, e := span.Div(pair(1, 1, w), pair(tiny(w), 1, w), w)
		wants(t, got, e, quotientOf(pair(1, 1, w), pair(tiny(w), 1, w), w), "Div", w)
	}
}

func TestP505Few(t *testing.T) {
	for _, w := range widths {
		for _, l := range [][]api.Span{nil, {}} {
			got, e := span.Sum(l, w)
			wants(t, got, e, api.Span{}, "Sum of none", w)
		}
		for _, s := range intervals(w) {
			got, e := span.Sum([]api.Span{s}, w)
			wants(t, got, e, sumOf(w, s), "Sum", s, w)
		}
		for _, l := range [][]api.Span{
			{pair(1, 1, w), pair(0x1p-60, 0x1p-60, w), pair(-1, -1, w)},
			{pair(top(w), top(w), w), pair(top(w), top(w), w), pair(-top(w), -top(w), w)},
			{pair(-top(w), 1, w), pair(-top(w), top(w), w), pair(3, top(w), w)},
			{pair(top(w), top(w), w), pair(1, 1, w), pair(-top(w), -top(w), w), pair(tiny(w), tiny(w), w)},
			{pair(-inf, 1, w), pair(1, inf, w), pair(top(w), top(w), w)},
			{pair(-inf, -1, w), pair(5, 5, w)},
			{pair(1, inf, w), pair(-top(w), -top(w), w), pair(-top(w), -top(w), w)},
			{pair(-1, 2, w), pair(-2, 1, w), pair(3, 3, w), pair(-3, -3, w)},
		} {
			got, e := span.Sum(l, w)
			wants(t, got, e, sumOf(w, l...), "Sum", l, w)
		}
	}
}

func TestP505Many(t *testing.T) {
	r := rand.New(rand.NewSource(505))
	for _, w := range widths {
		for n := range 300 {
			var l []api.Span
			for len(l) < n%40 {
				s := some(r, w)
				// So that ends that are infinite don't hide all others.
				if n%3 != 0 && (math.IsInf(valueOf(s.Lo, w), 0) || math.IsInf(valueOf(s.Hi, w), 0)) {
					continue
				}
				if l = append(l, s); n%5 == 0 {
					l = append(l, negOf(s, w))
				}
			}
			got, e := span.Sum(l, w)
			wants(t, got, e, sumOf(w, l...), "Sum", n, w)
			r.Shuffle(len(l), func(i, j int) { l[i], l[j] = l[j], l[i] })
			got, e = span.Sum(l, w)
			wants(t, got, e, sumOf(w, l...), "Sum, shuffled", n, w)
		}
	}
}

// TestP505MaxList: as many as there may be, whose exact sum is a multiple of one.
func TestP505MaxList(t *testing.T) {
	many := power(16)
	for _, w := range widths {
		for _, s := range []api.Span{pair(-top(w), top(w), w), pair(-top(w), -top(w), w), pair(tiny(w), tiny(w), w), pair(-1.1, 1.3, w), pair(1, inf, w), {}} {
			s = pair(valueOf(s.Lo, w), valueOf(s.Hi, w), w)
			l := slices.Repeat([]api.Span{s}, api.MaxList)
			got, e := span.Sum(l, w)
			wants(t, got, e, outward(ends(s, w)[0].times(many), ends(s, w)[1].times(many), w), "Sum of MaxList", s, w)
			got, e = span.Sum(append(l, s), w)
			refused(t, got, e, api.ErrLong, "Sum of one more", s, w)
		}
		// All but the last one cancel.
		l := slices.Concat(slices.Repeat([]api.Span{pair(top(w), top(w), w)}, api.MaxList/2-1), slices.Repeat([]api.Span{pair(-top(w), -top(w), w)}, api.MaxList/2-1), []api.Span{pair(tiny(w), 3, w)})
		got, e := span.Sum(l, w)
		wants(t, got, e, pair(tiny(w), 3, w), "Sum that cancels", w)
	}
}

func TestP505Errors(t *testing.T) {
	long := make([]api.Span, api.MaxList+1)
	bad := slices.Clone(long)
	bad[0] = api.Span{Lo: -1, Hi: -1}
	for _, w := range widths {
		got, e := span.Sum(long, w)
		refused(t, got, e, api.ErrLong, "Sum of too many", w)
		got, e = span.Sum(bad, w)
		refused(t, got, e, api.ErrLong, "Sum of too many, one no interval", w)
		for _, s := range noIntervals(w) {
			for _, l := range [][]api.Span{{s}, {pair(1, 2, w), s}, {s, pair(-inf, inf, w)}, {pair(-inf, inf, w), {}, s}} {
				got, e = span.Sum(l, w)
				refused(t, got, e, api.ErrArg, "Sum", l, w)
			}
		}
		last := slices.Clone(long[1:])
		last[api.MaxList-1] = pair(1, 0, w)
		got, e = span.Sum(last, w)
		refused(t, got, e, api.ErrArg, "Sum whose last is no interval", w)
	}
	for _, w := range noWidths {
		for _, l := range [][]api.Span{nil, long, bad, {{Lo: -1, Hi: -1}}} {
			got, e := span.Sum(l, w)
			refused(t, got, e, api.ErrWidth, "Sum", len(l), w)
		}
	}
}

func TestP506Meet(t *testing.T) {
	for _, w := range widths {
		for _, s := range intervals(w) {
			for _, u := range intervals(w) {
				lo, hi := greatest(ends(s, w)[0], ends(u, w)[0]), least(ends(s, w)[1], ends(u, w)[1])
				got, ok, e := span.Meet(s, u, w)
				if ok != (lo.compare(hi) <= 0) {
					t.Errorf("Meet(%v, %v, %d) is %t", s, u, w, ok)
				}
				want := api.Span{}
				if lo.compare(hi) <= 0 {
					want = outward(lo, hi, w)
				}
				wants(t, got, e, want, "Meet", s, u, w)
			}
		}
		// Two that touch in one float, and two between which there is none.
		next := beside(1, 2, w)
		got, ok, e := span.Meet(pair(-inf, next, w), pair(next, inf, w), w)
		if wants(t, got, e, pair(next, next, w), "Meet", w); !ok {
			t.Error("two that touch don't meet")
		}
		got, ok, e = span.Meet(pair(next, inf, w), pair(-inf, 1, w), w)
		if wants(t, got, e, api.Span{}, "Meet", w); ok {
			t.Error("two apart meet")
		}
	}
}

func TestP507Has(t *testing.T) {
	for _, w := range widths {
		for _, s := range intervals(w) {
			for _, x := range numbers(w) {
				if got, e := span.Has(s, x.num(), w); got != among(s, x, w) || e != api.OK {
					t.Errorf("Has(%v, %v, %d): %t, %v", s, x.num(), w, got, e)
				}
			}
		}
		far := api.Num{Mag: []int{1}, Exp: api.MaxExp}
		for s, want := range map[api.Span]bool{pair(top(w), inf, w): true, pair(-inf, inf, w): true, pair(-inf, top(w), w): false, pair(top(w), top(w), w): false} {
			if got, e := span.Has(s, far, w); got != want || e != api.OK {
				t.Errorf("Has(%v, 2^MaxExp, %d): %t, %v", s, w, got, e)
			}
		}
	}
}

func TestP507Holds(t *testing.T) {
	for _, w := range widths {
		for _, s := range intervals(w) {
			for _, f := range append(floats(w), beside(3, 0, w), beside(3, 9, w), 2, -2) {
				got, e := span.Holds(s, pattern(f, w), w)
				if math.IsInf(f, 0) {
					if got || e != api.ErrBits {
						t.Errorf("Holds(%v, %v, %d): %t, %v", s, f, w, got, e)
					}
					continue
				}
				if got != among(s, realOf(f), w) || e != api.OK {
					t.Errorf("Holds(%v, %v, %d): %t, %v", s, f, w, got, e)
				}
			}
		}
	}
}

func TestP507Point(t *testing.T) {
	for _, w := range widths {
		for _, s := range intervals(w) {
			want := ends(s, w)[0].compare(ends(s, w)[1]) == 0
			if got, e := span.Point(s, w); got != want || e != api.OK {
				t.Errorf("Point(%v, %d): %t, %v", s, w, got, e)
			}
		}
		for _, s := range []api.Span{pair(1, beside(1, 2, w), w), pair(top(w), inf, w), pair(-tiny(w), 0, w), pair(-3, 3, w)} {
			if got, e := span.Point(s, w); got || e != api.OK {
				t.Errorf("Point(%v, %d): %t, %v", s, w, got, e)
			}
		}
	}
}

// inside tells some number of an interval, not a float as a rule.
func inside(r *rand.Rand, s api.Span, w int) real {
	lo, hi := ends(s, w)[0], ends(s, w)[1]
	far := power(r.Intn(2200))
	switch {
	case lo.infinite != 0 && hi.infinite != 0:
		return []real{far, far.turned(), realOf(finite(r, w))}[r.Intn(3)]
	case lo.infinite != 0:
		return []real{hi, hi.plus(far.turned())}[r.Intn(2)]
	case hi.infinite != 0:
		return []real{lo, lo.plus(far)}[r.Intn(2)]
	}
	part := realOf(float64(r.Intn(9)) / 8)
	return lo.plus(hi.plus(lo.turned()).times(part))
}

// TestP508In: what comes of numbers in the intervals is in what comes of these.
func TestP508In(t *testing.T) {
	r := rand.New(rand.NewSource(508))
	for _, w := range widths {
		for range 3000 {
			s, u := some(r, w), some(r, w)
			x, y := inside(r, s, w), inside(r, u, w)
			for _, c := range []struct {
				name string
				f    func(s, t api.Span, w int) (api.Span, api.Errno)
				of   real
			}{{"Add", span.Add, x.plus(y)}, {"Sub", span.Sub, x.plus(y.turned())}, {"Mul", span.Mul, x.times(y)}} {
				got, e := c.f(s, u, w)
				if in, f := span.Has(got, c.of.num(), w); e != api.OK || f != api.OK || !in {
					t.Errorf("%s(%v, %v, %d): %v does not have %v", c.name, s, u, w, got, c.of.number)
				}
			}
			turned, _ := span.Neg(s, w)
			if in, e := span.Has(turned, x.turned().num(), w); e != api.OK || !in {
				t.Errorf("Neg(%v, %d): %v", s, w, turned)
			}
			if got, e := span.Div(s, u, w); e == api.OK && !among(got, x.by(y), w) {
				t.Errorf("Div(%v, %v, %d): %v does not have %v", s, u, w, got, x.by(y).number)
			}
			l, all := []api.Span{s, u}, x.plus(y)
			for range r.Intn(5) {
				l = append(l, some(r, w))
				all = all.plus(inside(r, l[len(l)-1], w))
			}
			got, e := span.Sum(l, w)
			if in, f := span.Has(got, all.num(), w); e != api.OK || f != api.OK || !in {
				t.Errorf("Sum(%v, %d): %v does not have %v", l, w, got, all.number)
			}
		}
	}
}

// TestP508Points: points make a point, if the exact result is a float, and else two neighbours.
func TestP508Points(t *testing.T) {
	r := rand.New(rand.NewSource(5080))
	points := 0
	for _, w := range widths {
		for range 3000 {
			a, b := finite(r, w), finite(r, w)
			x, y := realOf(a), realOf(b)
			of := []real{x.plus(y), x.plus(y.turned()), x.times(y), realOf(0)}
			if b != 0 {
				of[3] = x.by(y)
			}
			for i, c := range ofTwo()[:4] {
				if c.name == "Div" && b == 0 {
					continue
				}
				got, e := c.f(pair(a, a, w), pair(b, b, w), w)
				point, f := span.Point(got, w)
				isFloat := of[i].down(w) == of[i].up(w)
				if e != api.OK || f != api.OK || point != isFloat {
					t.Errorf("%s of the points %v, %v of width %d: %v, %v", c.name, a, b, w, got, e)
				}
				if isFloat {
					points++
				} else if beside(valueOf(got.Lo, w), inf, w) != valueOf(got.Hi, w) {
					t.Errorf("%s of the points %v, %v of width %d: %v", c.name, a, b, w, got)
				}
			}
		}
	}
	if points < 1000 {
		t.Errorf("only %d points", points)
	}
}

// TestErrors: wrong widths, then pairs that are no intervals, then wrong patterns and numbers.
func TestErrors(t *testing.T) {
	for _, w := range widths {
		fine := pair(1, 2, w)
		for _, s := range noIntervals(w) {
			wrong(t, s, fine, w, api.ErrArg)
			wrong(t, s, s, w, api.ErrArg)
			for _, c := range ofTwo() {
				got, e := c.f(fine, s, w)
				refused(t, got, e, api.ErrArg, c.name, s, w)
			}
			got, ok, e := span.Meet(fine, s, w)
			if refused(t, got, e, api.ErrArg, "Meet", s, w); ok {
				t.Errorf("Meet(%v, %v, %d) is true", fine, s, w)
			}
		}
		for _, s := range intervals(w) {
			for _, b := range append(noNumbers(w), pattern(inf, w), pattern(-inf, w)) {
				if in, e := span.Holds(s, b, w); in || e != api.ErrBits {
					t.Errorf("Holds(%v, %#x, %d): %t, %v", s, b, w, in, e)
				}
			}
			for _, x := range noNums() {
				if in, e := span.Has(s, x, w); in || e != api.ErrNum {
					t.Errorf("Has(%v, no Num, %d): %t, %v", s, w, in, e)
				}
			}
		}
	}
	for _, w := range noWidths {
		for _, s := range []api.Span{{}, pair(1, 1, 64), pair(1, 1, 32), {Lo: 1}, {Lo: api.NaN, Hi: api.NaN}, {Lo: api.Inf, Hi: api.Inf}} {
			wrong(t, s, s, w, api.ErrWidth)
			wrong(t, s, api.Span{}, w, api.ErrWidth)
		}
	}
}

// wrong asks all calls of intervals, of which the first is wrong: what else is wrong comes behind it.
func wrong(t *testing.T, s, u api.Span, w int, want api.Errno) {
	t.Helper()
	got, e := span.Neg(s, w)
	refused(t, got, e, want, "Neg", s, w)
	for _, c := range ofTwo() {
		got, e := c.f(s, u, w)
		refused(t, got, e, want, c.name, s, u, w)
		got, e = c.f(s, api.Span{}, w)
		refused(t, got, e, want, c.name, s, w)
	}
	got, ok, e := span.Meet(s, u, w)
	if refused(t, got, e, want, "Meet", s, u, w); ok {
		t.Errorf("Meet(%v, %v, %d) is true", s, u, w)
	}
	for _, x := range []api.Num{{}, {Mag: []int{1}}, {Neg: true}} {
		if in, e := span.Has(s, x, w); in || e != want {
			t.Errorf("Has(%v, %v, %d): %t, %v", s, x, w, in, e)
		}
	}
	for _, b := range []int{0, -1, api.Inf32, api.NaN} {
		if in, e := span.Holds(s, b, w); in || e != want {
			t.Errorf("Holds(%v, %#x, %d): %t, %v", s, b, w, in, e)
		}
	}
	if one, e := span.Point(s, w); one || e != want {
		t.Errorf("Point(%v, %d): %t, %v", s, w, one, e)
	}
}

// TestP509Kept: lists and digits, and the room behind them, stay as they are.
func TestP509Kept(t *testing.T) {
	for _, w := range widths {
		room := []api.Span{pair(1, 2, w), pair(nought, inf, w), pair(-3, 0.1, w), pair(7, 7, w), {Lo: -5, Hi: 9}}
		was := slices.Clone(room)
		first, _ := span.Sum(room[:3], w)
		digits := []int{1, 0, 5, 9, 9}
		x := api.Num{Neg: true, Mag: digits[:3], Exp: -60}
		around, _ := span.Around(x, w)
		if in, e := span.Has(pair(-inf, 0, w), x, w); !in || e != api.OK {
			t.Errorf("Has: %t, %v", in, e)
		}
		if !slices.Equal(room, was) || !slices.Equal(digits, []int{1, 0, 5, 9, 9}) {
			t.Errorf("turned: %v, %v", room, digits)
		}
		for i := range room {
			room[i] = pair(9, 9, w)
		}
		for i := range digits {
			digits[i] = 3
		}
		again, _ := span.Sum(was[:3], w)
		other, _ := span.Around(api.Num{Neg: true, Mag: []int{1, 0, 5}, Exp: -60}, w)
		if first != again || around != other {
			t.Errorf("kept: %v, %v; %v, %v", first, again, around, other)
		}
	}
}

// answers asks all calls at some intervals.
func answers(seed int64) []any {
	r := rand.New(rand.NewSource(seed))
	var all []any
	add := func(what ...any) { all = append(all, what...) }
	for i := range 200 {
		w := widths[i%2]
		s, u := some(r, w), some(r, w)
		for _, c := range ofTwo() {
			got, e := c.f(s, u, w)
			add(got, e)
		}
		sum, e := span.Sum([]api.Span{s, u, s}, w)
		met, ok, f := span.Meet(s, u, w)
		x := realOf(finite(r, w)).plus(power(-200))
		has, g := span.Has(s, x.num(), w)
		around, h := span.Around(x.num(), w)
		add(sum, e, met, ok, f, has, g, around, h)
	}
	return all
}

// TestP509Alone: what is answered hangs on the arguments alone, however many ask, and whatever was asked before.
func TestP509Alone(t *testing.T) {
	const askers = 8
	want := answers(509)
	var got [askers][]any
	var group sync.WaitGroup
	for i := range askers {
		group.Go(func() {
			answers(int64(i))
			got[i] = answers(509)
		})
	}
	group.Wait()
	for i := range got {
		if !reflect.DeepEqual(got[i], want) {
			t.Errorf("asker %d was told something else", i)
		}
	}
}
