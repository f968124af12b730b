package acc_test

import (
	"math"
	"math/rand"
	"slices"
	"testing"

	"pupil/acc"
	"pupil/api"
)

func TestP301Valid(t *testing.T) {
	for _, x := range nums {
		for _, a := range flagged(x) {
			if !acc.Valid(a) {
				t.Errorf("not valid: %v", a)
			}
		}
	}
	for _, x := range noNums() {
		for _, a := range flagged(x) {
			if acc.Valid(a) {
				t.Errorf("valid: %v", a)
			}
		}
	}
}

func TestP301Same(t *testing.T) {
	var list []api.Acc
	for _, x := range []api.Num{{}, num(false, 1, 0), num(true, 1, 0), num(false, 1, 1), num(false, 3, 0), {Mag: []int{1, 1}}, {Mag: []int{1, 3}}, {Mag: []int{3, 1}}, {Mag: []int{1, 0, 1}}, {Neg: true}, {Mag: []int{2}}, {Mag: []int{1, 0}}} {
		list = append(list, flagged(x)...)
	}
	for i, a := range list {
		for j, b := range list {
			b.Sum.Mag = append([]int{}, b.Sum.Mag...)
			if acc.Same(a, b) != (i == j) {
				t.Errorf("Same(%v, %v) is %t", a, b, i != j)
			}
		}
	}
}

func TestP302Add(t *testing.T) {
	for _, w := range widths {
		for _, b := range edges(w) {
			got, e := acc.Of(b, w)
			wants(t, got, e, ofFloat(b, w), "Of", b, w)
			for _, x := range nums {
				for _, a := range flagged(x)[b&7 : b&7+1] {
					got, e := acc.Add(a, b, w)
					wants(t, got, e, totalOf(a).merged(ofFloat(b, w)), "Add", a, b, w)
				}
			}
		}
	}
}

func TestP302AddFlags(t *testing.T) {
	for _, w := range widths {
		for _, a := range flagged(num(true, 3, 2)) {
			for _, b := range edges(w) {
				got, e := acc.Add(a, b, w)
				wants(t, got, e, totalOf(a).merged(ofFloat(b, w)), "Add", a, b, w)
			}
		}
	}
}

func TestP302Many(t *testing.T) {
	r := rand.New(rand.NewSource(302))
	for _, w := range widths {
		for range 30 {
			a, want := api.Acc{}, nothing
			for range 60 {
				b := finite(r, w)
				want = want.merged(ofFloat(b, w))
				var e api.Errno
				a, e = acc.Add(a, b, w)
				wants(t, a, e, want, "Add", b, w)
			}
		}
	}
}

func TestP302AddNum(t *testing.T) {
	for _, x := range nums {
		for i, y := range nums {
			a := flagged(x)[i&7]
			got, e := acc.AddNum(a, y)
			wants(t, got, e, totalOf(a).merged(total{sum: numbered(y)}), "AddNum", i)
		}
	}
}

func TestP303AddProduct(t *testing.T) {
	for _, w := range widths {
		for _, x := range edges(w) {
			for i, y := range edges(w) {
				for _, a := range []api.Acc{{}, flagged(num(true, 3, 2))[i&7]} {
					got, e := acc.AddProduct(a, x, y, w)
					wants(t, got, e, totalOf(a).merged(ofProduct(x, y, w)), "AddProduct", a, x, y, w)
				}
			}
		}
	}
}

func TestP303Many(t *testing.T) {
	r := rand.New(rand.NewSource(303))
	for _, w := range widths {
		for range 30 {
			a, want := api.Acc{}, nothing
			for range 60 {
				x, y := finite(r, w), finite(r, w)
				want = want.merged(ofProduct(x, y, w))
				var e api.Errno
				a, e = acc.AddProduct(a, x, y, w)
				wants(t, a, e, want, "AddProduct", x, y, w)
			}
		}
	}
}

func TestP303LongSums(t *testing.T) {
	for _, w := range widths {
		top, one := infinity(w)-1, patternOf(1, w)
		for _, x := range nums {
			for _, p := range [][2]int{{1, 1}, {top, top}, {one, top}, {1, one}, {0, one}} {
				got, e := acc.AddProduct(api.Acc{Sum: x}, p[0], p[1], w)
				wants(t, got, e, total{sum: numbered(x)}.merged(ofProduct(p[0], p[1], w)), "AddProduct", x.Exp, p, w)
			}
		}
	}
}

func TestP304Merge(t *testing.T) {
	for _, a := range flagged(num(false, 5, -1)) {
		for _, b := range flagged(api.Num{Neg: true, Mag: []int{7, 9}, Exp: 4}) {
			got, e := acc.Merge(a, b)
			wants(t, got, e, totalOf(a).merged(totalOf(b)), "Merge", a, b)
		}
	}
	for i, x := range nums {
		for j, y := range nums {
			a, b := flagged(x)[j&7], flagged(y)[i&7]
			got, e := acc.Merge(a, b)
			wants(t, got, e, totalOf(a).merged(totalOf(b)), "Merge", i, j)
		}
	}
}

func TestP304Neg(t *testing.T) {
	for _, x := range nums {
		for _, a := range flagged(x) {
			want := total{numbered(x), a.Minus, a.Plus, a.None}
			want.sum.n.Neg(want.sum.n)
			got, e := acc.Neg(a)
			wants(t, got, e, want, "Neg", a)
		}
	}
}

func TestP305Times(t *testing.T) {
	for _, w := range widths {
		for _, b := range edges(w) {
			for _, x := range nums {
				list := flagged(x)
				if len(x.Mag) > 100 {
					list = list[:2]
				}
				for _, a := range list {
					got, e := acc.Times(a, b, w)
					wants(t, got, e, totalOf(a).timesFloat(b, w), "Times", x.Exp, a.Plus, a.Minus, a.None, b, w)
				}
			}
		}
	}
}

func TestP306Round(t *testing.T) {
	r := rand.New(rand.NewSource(306))
	for _, w := range widths {
		for _, x := range nums {
			for _, a := range flagged(x) {
				if got, e := acc.Round(a, w); e != api.OK || got != totalOf(a).nearest(1, w) {
					t.Errorf("Round(%v, %d): %#x, %v", a, w, got, e)
				}
			}
		}
		for range 2000 {
			x := total{sum: powerOf(finite(r, w), w)}
			// Half a step, and a little more or less, beside it.
			x.sum = x.sum.plus(power{x.sum.n, x.sum.exp - []int{24, 25, 53, 54, 55}[r.Intn(5)]})
			n, _ := x.sum.num()
			if got, e := acc.Round(api.Acc{Sum: n}, w); e != api.OK || got != x.nearest(1, w) {
				t.Errorf("Round(%v, %d): %#x, %v", n, w, got, e)
			}
		}
	}
}

func TestP306Mean(t *testing.T) {
	r := rand.New(rand.NewSource(307))
	for _, w := range widths {
		for _, n := range []int{1, 2, 3, 5, 7, 10, 255, 256, 4096, 1 << 30, 1<<60 - 1, 1 << 62, math.MaxInt - 1, math.MaxInt} {
			list := []api.Acc{}
			for _, x := range nums {
				if len(x.Mag) < 100 {
					list = append(list, flagged(x)...)
				}
			}
			for range 100 {
				x, _ := powerOf(finite(r, w), w).num()
				list = append(list, api.Acc{Sum: x})
			}
			for _, a := range list {
				if got, e := acc.Mean(a, n, w); e != api.OK || got != totalOf(a).nearest(n, w) {
					t.Errorf("Mean(%v, %d, %d): %#x, %v", a, n, w, got, e)
				}
			}
		}
		for _, a := range append(flagged(api.Num{}), flagged(num(true, 3, 1))...) {
			for n, want := range map[int]api.Errno{0: api.ErrDivide, -1: api.ErrNegative, -3: api.ErrNegative, math.MinInt: api.ErrNegative} {
				if got, e := acc.Mean(a, n, w); e != want || got != 0 {
					t.Errorf("Mean(%v, %d, %d): %#x, %v", a, n, w, got, e)
				}
			}
		}
	}
}

func TestP306RoundedOnce(t *testing.T) {
	// 2^53 + 1, which no binary64 is, has a whole third: from 2^53 it would be another one.
	x, _ := power{whole(false, []int{1, 1 << 23}), 0}.num()
	if got, e := acc.Mean(api.Acc{Sum: x}, 3, 64); e != api.OK || got != b64(3002399751580331) {
		t.Errorf("Mean(2^53 + 1, 3): %#x, %v", got, e)
	}
}

// held holds Sum and Dot of lists against what is asked.
func held(t *testing.T, x, y []int, w int) {
	t.Helper()
	sum, dot := nothing, nothing
	for i := range x {
		sum, dot = sum.merged(ofFloat(x[i], w)), dot.merged(ofProduct(x[i], y[i], w))
	}
	if got, e := acc.Sum(x, w); e != api.OK || got != sum.nearest(1, w) {
		t.Errorf("Sum of %d of width %d: %#x, %v; want %#x", len(x), w, got, e, sum.nearest(1, w))
	}
	if got, e := acc.Dot(x, y, w); e != api.OK || got != dot.nearest(1, w) {
		t.Errorf("Dot of %d of width %d: %#x, %v; want %#x", len(x), w, got, e, dot.nearest(1, w))
	}
	if len(x) > 100 {
		return
	}
	var one api.Acc
	for i := range x {
		one, _ = acc.AddProduct(one, x[i], y[i], w)
	}
	if all, e := acc.Products(x, y, w); e != api.OK || !acc.Same(all, one) {
		t.Errorf("Products of %d of width %d: %v, %v; want %v", len(x), w, all, e, one)
	}
}

func TestP307Lists(t *testing.T) {
	r := rand.New(rand.NewSource(308))
	for _, w := range widths {
		held(t, nil, nil, w)
		held(t, []int{}, nil, w)
		for i := range 300 {
			pick := finite
			if i%4 == 0 {
				pick = anyFloat
			}
			var x, y []int
			for range r.Intn(12) {
				x, y = append(x, pick(r, w)), append(y, pick(r, w))
			}
			held(t, x, y, w)
		}
		// Sizes near to each other, so that all digits of what is added matter.
		near := patternOf(1, w)
		for range 300 {
			var x, y []int
			for range 1 + r.Intn(20) {
				sign := -(r.Intn(2)) << (w - 1) & (1<<w - 1)
				x, y = append(x, near+r.Intn(1<<(w-10))-r.Intn(1<<(w-10))|sign), append(y, near+r.Intn(1<<(w-10)))
			}
			held(t, x, y, w)
		}
	}
}

func TestP307Cancelled(t *testing.T) {
	r := rand.New(rand.NewSource(309))
	for _, w := range widths {
		for range 200 {
			var x, y []int
			for range 1 + r.Intn(8) {
				a, b := finite(r, w), finite(r, w)
				x, y = append(x, a, a^(-1<<(w-1)&(1<<w-1))), append(y, b, b)
			}
			if got, e := acc.Dot(x, y, w); got != 0 || e != api.OK {
				t.Errorf("Dot of what cancels: %#x, %v", got, e)
			}
			if got, e := acc.Sum(x, w); got != 0 || e != api.OK {
				t.Errorf("Sum of what cancels: %#x, %v", got, e)
			}
			small := finite(r, w)
			held(t, append(x, small), append(y, patternOf(1, w)), w)
		}
	}
}

func TestP307Greatest(t *testing.T) {
	for _, w := range widths {
		top := infinity(w) - 1
		low := top | -1<<(w-1)&(1<<w-1)
		for _, p := range [][2]int{{top, top}, {low, top}, {low, low}, {1, 1}, {top, 1}, {0, top}, {patternOf(1, w), low}} {
			x, y := slices.Repeat(p[:1], api.MaxList), slices.Repeat(p[1:], api.MaxList)
			count := power{whole(false, []int{api.MaxList}), 0}
			sum, dot := ofFloat(p[0], w), ofProduct(p[0], p[1], w)
			sum.sum, dot.sum = sum.sum.times(count), dot.sum.times(count)
			if got, e := acc.Sum(x, w); e != api.OK || got != sum.nearest(1, w) {
				t.Errorf("Sum of so many %#x: %#x, %v", p[0], got, e)
			}
			if got, e := acc.Dot(x, y, w); e != api.OK || got != dot.nearest(1, w) {
				t.Errorf("Dot of so many %#x: %#x, %v", p, got, e)
			}
			// All but one of them taken away again.
			for i := range api.MaxList / 2 {
				y[i] ^= -1 << (w - 1) & (1<<w - 1)
			}
			x[0] = patternOf(1, w)
			held(t, x, y, w)
			if _, e := acc.Sum(append(x, 0), w); e != api.ErrLong {
				t.Errorf("Sum of one more than there may be: %v", e)
			}
			if _, e := acc.Dot(append(x, 0), append(y, 0), w); e != api.ErrLong {
				t.Errorf("Dot of one more than there may be: %v", e)
			}
		}
	}
}

func TestP307Errors(t *testing.T) {
	many, more := make([]int, api.MaxList+1), make([]int, api.MaxList+2)
	many[3], more[3] = -1, -1
	bad := func(got int, e api.Errno, want api.Errno, name string, given ...any) {
		t.Helper()
		if e != want || got != 0 {
			t.Errorf("%s of %v: %#x, %v; want %v", name, given, got, e, want)
		}
	}
	for _, w := range noWidths {
		for _, l := range [][]int{nil, {0}, {-1}, many} {
			got, e := acc.Sum(l, w)
			bad(got, e, api.ErrWidth, "Sum", len(l), w)
			got, e = acc.Dot(l, nil, w)
			bad(got, e, api.ErrWidth, "Dot", len(l), w)
			got, e = acc.Dot(more, l, w)
			bad(got, e, api.ErrWidth, "Dot", len(l), w)
		}
	}
	for _, w := range widths {
		got, e := acc.Sum(many, w)
		bad(got, e, api.ErrLong, "Sum", "many", w)
		got, e = acc.Dot(many, many, w)
		bad(got, e, api.ErrLong, "Dot", "many", w)
		for _, pair := range [][2][]int{{nil, {0}}, {{0}, nil}, {{0, 0}, {0}}, {{-1}, {-1, -1}}, {many, more}, {more, many}, {many, nil}} {
			got, e = acc.Dot(pair[0], pair[1], w)
			bad(got, e, api.ErrArg, "Dot", len(pair[0]), len(pair[1]), w)
		}
	}
	for _, b := range noBits32 {
		for _, l := range [][]int{{b}, {0, b}, {b, 0}, {0, api.NaN32, b}} {
			zeros := make([]int, len(l))
			got, e := acc.Sum(l, 32)
			bad(got, e, api.ErrBits, "Sum", l)
			got, e = acc.Dot(l, zeros, 32)
			bad(got, e, api.ErrBits, "Dot", l)
			got, e = acc.Dot(zeros, l, 32)
			bad(got, e, api.ErrBits, "Dot, second", l)
		}
	}
}

// call is a call of a sum, of a width, a pattern, a count.
type call func(a api.Acc, w, b, n int) (api.Acc, int, api.Errno)

// calls are all that can refuse, but those of lists; sums and floats that one does not tell are 0.
func calls() map[string]call {
	sum := func(a api.Acc, e api.Errno) (api.Acc, int, api.Errno) { return a, 0, e }
	float := func(b int, e api.Errno) (api.Acc, int, api.Errno) { return api.Acc{}, b, e }
	return map[string]call{
		"Of":                 func(a api.Acc, w, b, n int) (api.Acc, int, api.Errno) { return sum(acc.Of(b, w)) },
		"Add":                func(a api.Acc, w, b, n int) (api.Acc, int, api.Errno) { return sum(acc.Add(a, b, w)) },
		"AddProduct":         func(a api.Acc, w, b, n int) (api.Acc, int, api.Errno) { return sum(acc.AddProduct(a, b, 0, w)) },
		"AddProduct, second": func(a api.Acc, w, b, n int) (api.Acc, int, api.Errno) { return sum(acc.AddProduct(a, 1, b, w)) },
		"AddNum":             func(a api.Acc, w, b, n int) (api.Acc, int, api.Errno) { return sum(acc.AddNum(a, num(false, 1, 0))) },
		"AddNum, second":     func(a api.Acc, w, b, n int) (api.Acc, int, api.Errno) { return sum(acc.AddNum(api.Acc{}, a.Sum)) },
		"Merge":              func(a api.Acc, w, b, n int) (api.Acc, int, api.Errno) { return sum(acc.Merge(a, api.Acc{Plus: true})) },
		"Merge, second":      func(a api.Acc, w, b, n int) (api.Acc, int, api.Errno) { return sum(acc.Merge(api.Acc{Plus: true}, a)) },
		"Neg":                func(a api.Acc, w, b, n int) (api.Acc, int, api.Errno) { return sum(acc.Neg(a)) },
		"Times":              func(a api.Acc, w, b, n int) (api.Acc, int, api.Errno) { return sum(acc.Times(a, b, w)) },
		"Round":              func(a api.Acc, w, b, n int) (api.Acc, int, api.Errno) { return float(acc.Round(a, w)) },
		"Mean":               func(a api.Acc, w, b, n int) (api.Acc, int, api.Errno) { return float(acc.Mean(a, n, w)) },
	}
}

func TestErrorsInTheirOrder(t *testing.T) {
	takesWidth := []string{"Of", "Add", "AddProduct", "AddProduct, second", "Times", "Round", "Mean"}
	takesBits := takesWidth[:5]
	good := api.Acc{Sum: num(false, 1, 0), Minus: true}
	for name, f := range calls() {
		check := func(a api.Acc, w, b, n int, want api.Errno) {
			t.Helper()
			got, float, e := f(a, w, b, n)
			if e != want || want != api.OK && (!isZero(got) || float != 0) {
				t.Errorf("%s of %v, %d, %#x, %d: %v, %#x, %v; want %v", name, a, w, b, n, got, float, e, want)
			}
		}
		first := func(w, b, n int) api.Errno {
			switch {
			case w == 7 && slices.Contains(takesWidth, name):
				return api.ErrWidth
			case b == -1 && w == 32 && slices.Contains(takesBits, name):
				return api.ErrBits
			case n == 0 && name == "Mean":
				return api.ErrDivide
			case n < 0 && name == "Mean":
				return api.ErrNegative
			}
			return api.OK
		}
		for _, w := range []int{7, 32, 64} {
			for _, b := range []int{-1, 0} {
				for _, n := range []int{-1, 0, 1} {
					check(good, w, b, n, first(w, b, n))
					for _, x := range noNums() {
						want := first(w, b, n)
						if want != api.ErrWidth && name != "Of" {
							want = api.ErrNum
						}
						check(api.Acc{Sum: x, Minus: true}, w, b, n, want)
					}
				}
			}
		}
		for _, w := range noWidths {
			if slices.Contains(takesWidth, name) {
				check(good, w, 0, 1, api.ErrWidth)
			}
		}
		for _, b := range noBits32 {
			if slices.Contains(takesBits, name) {
				check(good, 32, b, 1, api.ErrBits)
			}
		}
	}
}

func TestErrLongIsLast(t *testing.T) {
	far := api.Acc{Sum: num(false, 1, 70000)}
	top := api.Acc{Sum: num(false, 1, api.MaxExp), None: true}
	for name, f := range map[string]func() (api.Acc, api.Errno){
		"Add":        func() (api.Acc, api.Errno) { return acc.Add(far, 1, 32) },
		"AddProduct": func() (api.Acc, api.Errno) { return acc.AddProduct(far, 1, 1, 64) },
		"AddNum":     func() (api.Acc, api.Errno) { return acc.AddNum(far, num(true, 1, 0)) },
		"Merge":      func() (api.Acc, api.Errno) { return acc.Merge(far, top) },
		"Times":      func() (api.Acc, api.Errno) { return acc.Times(top, b64(2), 64) },
	} {
		if got, e := f(); e != api.ErrLong || !isZero(got) {
			t.Errorf("%s: %v, %v", name, got, e)
		}
	}
	if got, e := acc.Add(far, -1, 32); e != api.ErrBits || !isZero(got) {
		t.Errorf("Add: %v, %v", got, e)
	}
	for _, b := range []float64{0, math.Inf(1), math.NaN()} {
		if _, e := acc.Times(top, b64(b), 64); e != api.OK {
			t.Errorf("Times what is not finite, or 0: %v", e)
		}
		if _, e := acc.Add(far, b64(b), 64); e != api.OK {
			t.Errorf("Add of what is not finite, or 0: %v", e)
		}
	}
}

// inParts adds up terms in some order and some parts.
func inParts(r *rand.Rand, terms []func(api.Acc) (api.Acc, api.Errno)) api.Acc {
	parts := make([]api.Acc, 1+r.Intn(5))
	for _, i := range r.Perm(len(terms)) {
		k := r.Intn(len(parts))
		parts[k], _ = terms[i](parts[k])
	}
	for len(parts) > 1 {
		i := 1 + r.Intn(len(parts)-1)
		if r.Intn(2) == 0 {
			parts[0], _ = acc.Merge(parts[0], parts[i])
		} else {
			parts[0], _ = acc.Merge(parts[i], parts[0])
		}
		parts = slices.Delete(parts, i, i+1)
	}
	return parts[0]
}

func TestP308AnyOrder(t *testing.T) {
	r := rand.New(rand.NewSource(310))
	for i := range 200 {
		pick := finite
		if i%3 == 0 {
			pick = anyFloat
		}
		var terms []func(api.Acc) (api.Acc, api.Errno)
		want := nothing
		for range 1 + r.Intn(25) {
			w := widths[r.Intn(2)]
			x, y := pick(r, w), pick(r, w)
			switch r.Intn(3) {
			case 0:
				terms = append(terms, func(a api.Acc) (api.Acc, api.Errno) { return acc.Add(a, x, w) })
				want = want.merged(ofFloat(x, w))
			case 1:
				terms = append(terms, func(a api.Acc) (api.Acc, api.Errno) { return acc.AddProduct(a, x, y, w) })
				want = want.merged(ofProduct(x, y, w))
			default:
				n, _ := powerOf(finite(r, 64), 64).num()
				terms = append(terms, func(a api.Acc) (api.Acc, api.Errno) { return acc.AddNum(a, n) })
				want = want.merged(total{sum: numbered(n)})
			}
		}
		for range 8 {
			a := inParts(r, terms)
			wants(t, a, api.OK, want, "what is added in parts", len(terms))
			for _, w := range widths {
				if got, _ := acc.Round(a, w); got != want.nearest(1, w) {
					t.Errorf("Round of what is added in parts: %#x", got)
				}
			}
		}
	}
}

func TestP308ListsInAnyOrder(t *testing.T) {
	r := rand.New(rand.NewSource(311))
	for _, w := range widths {
		for range 100 {
			var x, y []int
			for range 2 + r.Intn(40) {
				x, y = append(x, finite(r, w)), append(y, finite(r, w))
			}
			sum, _ := acc.Sum(x, w)
			dot, _ := acc.Dot(x, y, w)
			r.Shuffle(len(x), func(i, j int) { x[i], x[j], y[i], y[j] = x[j], x[i], y[j], y[i] })
			if got, _ := acc.Sum(x, w); got != sum {
				t.Errorf("Sum in another order: %#x, not %#x", got, sum)
			}
			if got, _ := acc.Dot(y, x, w); got != dot {
				t.Errorf("Dot in another order: %#x, not %#x", got, dot)
			}
		}
	}
}

func TestP309NothingIsChangedOrShared(t *testing.T) {
	rooms := [][]int{{3, 5, 77, 78, 79}, {digitTop, 9, 1, 66, 67}, {b64(1), b64(-2.5), b64(3), -7, -8}, {b64(7), 5, b64(-1), -9, -10}}
	a := api.Acc{Sum: api.Num{Mag: rooms[0][:2], Exp: -1}, Plus: true}
	b := api.Acc{Sum: api.Num{Neg: true, Mag: rooms[1][:3], Exp: 4}, None: true}
	x, y := rooms[2][:3], rooms[3][:3]
	was := [][]int{}
	for _, l := range rooms {
		was = append(was, slices.Clone(l))
	}
	unchanged := func() bool { return slices.EqualFunc(was, rooms, slices.Equal[[]int]) }
	for name, f := range map[string]func() (api.Acc, api.Errno){
		"Of":                func() (api.Acc, api.Errno) { return acc.Of(b64(1.5), 64) },
		"Add":               func() (api.Acc, api.Errno) { return acc.Add(a, b64(1.5), 64) },
		"Add 0":             func() (api.Acc, api.Errno) { return acc.Add(a, 0, 64) },
		"Add infinity":      func() (api.Acc, api.Errno) { return acc.Add(a, api.Inf32, 32) },
		"Add no number":     func() (api.Acc, api.Errno) { return acc.Add(a, api.NaN, 64) },
		"AddProduct":        func() (api.Acc, api.Errno) { return acc.AddProduct(a, b64(1.5), b64(3), 64) },
		"AddProduct 0":      func() (api.Acc, api.Errno) { return acc.AddProduct(a, 0, b64(3), 64) },
		"AddNum":            func() (api.Acc, api.Errno) { return acc.AddNum(a, b.Sum) },
		"AddNum to 0":       func() (api.Acc, api.Errno) { return acc.AddNum(api.Acc{}, b.Sum) },
		"AddNum 0":          func() (api.Acc, api.Errno) { return acc.AddNum(a, api.Num{}) },
		"Merge":             func() (api.Acc, api.Errno) { return acc.Merge(a, b) },
		"Merge, empty":      func() (api.Acc, api.Errno) { return acc.Merge(a, api.Acc{}) },
		"Merge to empty":    func() (api.Acc, api.Errno) { return acc.Merge(api.Acc{}, a) },
		"Neg":               func() (api.Acc, api.Errno) { return acc.Neg(b) },
		"Times":             func() (api.Acc, api.Errno) { return acc.Times(a, b64(-3), 64) },
		"Times 1":           func() (api.Acc, api.Errno) { return acc.Times(a, b64(1), 64) },
		"Times a subnormal": func() (api.Acc, api.Errno) { return acc.Times(b, 1, 32) },
	} {
		first, e := f()
		copied := first
		copied.Sum.Mag = slices.Clone(first.Sum.Mag)
		room := first.Sum.Mag[:cap(first.Sum.Mag)]
		for i := range room {
			room[i] = -1
		}
		second, e2 := f()
		if e != api.OK || e2 != api.OK || !same(copied, second) || !unchanged() {
			t.Errorf("%s: what is answered, or handed in, is shared or changed", name)
		}
	}
	for _, w := range widths {
		acc.Round(a, w)
		acc.Mean(b, 3, w)
		acc.Sum(x, w)
		acc.Dot(x, y, w)
	}
	acc.Same(a, b)
	acc.Valid(a)
	if !unchanged() {
		t.Error("what is handed in is changed")
	}
}
