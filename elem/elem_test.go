package elem_test

import (
	"math"
	"math/big"
	"math/rand"
	"slices"
	"testing"

	"pupil/api"
	"pupil/elem"
)

// turns are the numbers about which a value goes beyond all floats, below all of them or below the normal ones, or becomes a float that it stays at.
func turns(w int) []float64 {
	if w == 32 {
		return []float64{88.72283, 88.722839, 87.336544, 87.33655, 103.27893, 103.97208, 9.010913, 8.6643397, 16.635532, 17.328679, 16.98}
	}
	return []float64{709.782712893384, 709.0895657128241, 708.3964185322641, 708.39641853226408, 744.4400719213812, 745.1332191019412, 745.1332191019411, 19.061547465398498, 18.714973875118524, 36.04365338911715, 36.7368005696771, 37.42994775023705, 33.2}
}

// middles are numbers whose values lie hard by a middle between two floats, or by a float.
func middles(w int) []float64 {
	bits := map[int]int{32: 24, 64: 53}[w]
	var list []float64
	for k := 1.0; k <= 9; k++ {
		for up := -1; up <= 3; up++ {
			unit := math.Ldexp(k, up-bits)
			list = append(list, unit, 1+unit, 1-unit/2)
		}
	}
	for e := 1; e < 2*bits; e += 3 {
		list = append(list, math.Ldexp(1, -e), 1+math.Ldexp(1, -min(e, bits-1)))
	}
	return list
}

// edges are the least floats above 0, those about the ends of the classes, and ordinary ones.
func edges(w int) []float64 {
	least, normal := math.SmallestNonzeroFloat64, 0x1p-1022
	if w == 32 {
		least, normal = math.SmallestNonzeroFloat32, 0x1p-126
	}
	return []float64{0, least, 2 * least, 3 * least, 5 * least, normal - least, normal, normal + least, 2 * normal, math.Sqrt(normal), 1e-30, 1e-9, 1e-5, 0.1, 0.25, 1. / 3, 0.5, math.Ln2, 0.7, 1, 1.4, 1.5, 2, 2.5, math.E, 3, math.Pi, 4, 5, 7, 8, 10, 12, 15, 16, 18, 20, 30, 33, 40, 64, 70, 100}
}

// everyCall holds all calls that have a value of a number.
func everyCall(t *testing.T, x float64, w int) {
	t.Helper()
	for _, c := range calls {
		if has(c.op, x) {
			held(t, c, x, w)
		}
	}
}

func TestP401Edges(t *testing.T) {
	for _, w := range widths {
		for _, x := range slices.Concat(edges(w), middles(w)) {
			x = valueOf(ofWidth(x, w), w)
			everyCall(t, x, w)
			everyCall(t, -x, w)
		}
	}
}

func TestP401Turns(t *testing.T) {
	for _, w := range widths {
		for _, x := range turns(w) {
			b := ofWidth(x, w)
			for d := -2; d <= 2; d++ {
				everyCall(t, valueOf(b+d, w), w)
				everyCall(t, -valueOf(b+d, w), w)
			}
		}
	}
}

func TestP401LogOfAllSizes(t *testing.T) {
	log := calls[1]
	for _, w := range widths {
		top := inf(w) - 1
		for _, b := range []int{1, 2, 3, 7, top, top - 1, top / 2, top / 3, top / 5 * 4, top / 7, top / 100} {
			held(t, log, valueOf(b, w), w)
		}
		for k := -148; k < 128; k += 5 {
			held(t, log, math.Ldexp(1, k), w)
			held(t, log, valueOf(ofWidth(math.Ldexp(0.7, k), w)+k&1, w), w)
		}
	}
	held(t, log, 0x1p1023, 64)
	held(t, log, 0x1p-1022, 64)
}

func TestP401Some(t *testing.T) {
	r := rand.New(rand.NewSource(401))
	for i := range 400 {
		w := widths[i%2]
		x := some(r, w)
		everyCall(t, x, w)
		everyCall(t, -x, w)
	}
}

// TestP401Hard: values of which a hundred bits and more must be known.
func TestP401Hard(t *testing.T) {
	exp, log, sigmoid := calls[0], calls[1], calls[3]
	for _, x := range []float64{0x1.9E9CBBFD6080Bp-31, 0x1.83D4BCDEBB3F4p+2, 0x1.005AE04256BABp-1, 0x1.ACCFBE46B4EF0p-1} {
		held(t, exp, x, 64)
	}
	held(t, log, 0x1.62A88613629B6p+678, 64)
	held(t, log, 1-0x1p-52, 64)
	for k := 1.0; k < 40; k += 2 {
		held(t, sigmoid, k*0x1p-52, 64)
		held(t, sigmoid, -k*0x1p-53, 64)
		held(t, sigmoid, k*0x1p-23, 32)
		held(t, sigmoid, -k*0x1p-24, 32)
	}
}

// TestP401TiesAreNone: what lies hard by a middle between two floats is no tie, and goes to the nearer one, even or not.
func TestP401TiesAreNone(t *testing.T) {
	for i, x := range []struct {
		f          func(b, w int) (int, api.Errno)
		x          float64
		w, b, even int
	}{
		{elem.Exp, 0x1p-53, 64, b64(1) + 1, b64(1)},
		{elem.Exp, -0x1p-54, 64, b64(1), b64(1)},
		{elem.Exp, -0x3p-54, 64, b64(1) - 1, b64(1) - 2},
		{elem.Sigmoid, 0x3p-52, 64, b64(0.5) + 1, b64(0.5) + 2},
		{elem.Sigmoid, 0x3p-23, 32, 0x3F000001, 0x3F000002},
		{elem.Exp, 0x1p-24, 32, 0x3F800001, 0x3F800000},
		{elem.Log, 1 - 0x1p-52, 64, minus(b64(0x1p-52)+1, 64), minus(b64(0x1p-52), 64)},
		{elem.Log, 1 - 0x1p-23, 32, minus(0x34000001, 32), minus(0x34000000, 32)},
	} {
		if got, e := x.f(ofWidth(x.x, x.w), x.w); got != x.b || e != api.OK {
			t.Errorf("%d: %#x, %v; want %#x (the even one is %#x)", i, got, e, x.b, x.even)
		}
	}
}

// TestP401Far: beyond some thousands the answers don't turn, but that softplus is told as its number.
func TestP401Far(t *testing.T) {
	for _, w := range widths {
		top, one := inf(w)-1, ofWidth(1, w)
		half := ofWidth(0.5, w)
		for _, x := range []float64{1000, 1023, 1024, 1025, 2047.5, 2048, 3000, 1e5, 1e10, 1e30, 1e38, valueOf(top, w)} {
			b := ofWidth(x, w)
			for i, y := range []struct {
				c    call
				b    int
				want answer
			}{
				{calls[0], b, answer{inf(w), top, inf(w)}}, {calls[0], minus(b, w), answer{0, 0, 1}},
				{calls[2], b, answer{one, one - 1, one}}, {calls[2], minus(b, w), answer{minus(one, w), minus(one, w), minus(one-1, w)}},
				{calls[3], b, answer{one, one - 1, one}}, {calls[3], minus(b, w), answer{0, 0, 1}},
				{calls[4], b, answer{b, b, b + 1}}, {calls[4], minus(b, w), answer{0, 0, 1}},
			} {
				got, e := y.c.f(y.b, w)
				s, f := elem.Around(y.c.op, y.b, w)
				if got != y.want.near || e != api.OK || s != (api.Span{Lo: y.want.lo, Hi: y.want.hi}) || f != api.OK {
					t.Errorf("%v, width %d, %d: %#x, %v, %#x, %v; want %#x", x, w, i, got, e, s, f, y.want)
				}
			}
			if s, e := elem.Around(api.OpSigmoid, minus(1, w), w); s != (api.Span{Lo: half - 1, Hi: half}) || e != api.OK {
				t.Errorf("Around the sigmoid of the greatest float below 0, width %d: %#x, %v", w, s, e)
			}
		}
	}
}

func TestP402Ends(t *testing.T) {
	for _, w := range widths {
		plus, one := inf(w), ofWidth(1, w)
		less, zero := minus(plus, w), minus(0, w)
		nan := none(w)
		for _, x := range []struct {
			c       call
			b, want int
		}{
			{calls[0], plus, plus}, {calls[0], less, 0}, {calls[0], 0, one}, {calls[0], zero, one},
			{calls[1], plus, plus}, {calls[1], less, nan}, {calls[1], 0, less}, {calls[1], zero, less}, {calls[1], one, 0},
			{calls[1], minus(1, w), nan}, {calls[1], minus(one, w), nan}, {calls[1], minus(plus-1, w), nan},
			{calls[2], plus, one}, {calls[2], less, minus(one, w)}, {calls[2], 0, 0}, {calls[2], zero, 0},
			{calls[3], plus, one}, {calls[3], less, 0}, {calls[3], 0, ofWidth(0.5, w)}, {calls[3], zero, ofWidth(0.5, w)},
			{calls[4], plus, plus}, {calls[4], less, 0}, {calls[4], 0, ofWidth(math.Ln2, w)}, {calls[4], zero, ofWidth(math.Ln2, w)},
		} {
			if got, e := x.c.f(x.b, w); got != x.want || e != api.OK {
				t.Errorf("%s(%#x), width %d: %#x, %v; want %#x", x.c.name, x.b, w, got, e, x.want)
			}
		}
		for _, c := range calls {
			for _, b := range []int{nan, plus + 1, minus(plus+1, w), minus(nan, w), minus(1<<(w-1)-1, w), 1<<(w-1) - 1} {
				if got, e := c.f(b, w); got != nan || e != api.OK {
					t.Errorf("%s of the pattern %#x, no number of width %d: %#x, %v", c.name, b, w, got, e)
				}
			}
		}
	}
}

func TestP403AroundBothEnds(t *testing.T) {
	for _, w := range widths {
		one, half, top := ofWidth(1, w), ofWidth(0.5, w), inf(w)-1
		zero := minus(0, w)
		for i, x := range []struct {
			op, b  int
			lo, hi int
		}{
			{api.OpExp, 0, one, one}, {api.OpExp, zero, one, one}, {api.OpLog, one, 0, 0}, {api.OpTanh, 0, 0, 0}, {api.OpTanh, zero, 0, 0}, {api.OpSigmoid, 0, half, half}, {api.OpSigmoid, zero, half, half},
			{api.OpExp, 1, one, one + 1}, {api.OpExp, minus(1, w), one - 1, one},
			{api.OpTanh, 1, 0, 1}, {api.OpTanh, 2, 1, 2}, {api.OpTanh, minus(1, w), minus(1, w), 0}, {api.OpTanh, minus(2, w), minus(2, w), minus(1, w)},
			{api.OpSigmoid, 1, half, half + 1}, {api.OpSigmoid, minus(1, w), half - 1, half},
			{api.OpExp, ofWidth(-800, w), 0, 1}, {api.OpExp, ofWidth(800, w), top, top + 1}, {api.OpExp, top, top, top + 1}, {api.OpExp, minus(top, w), 0, 1},
			{api.OpSoftplus, top, top, top + 1}, {api.OpSoftplus, minus(top, w), 0, 1}, {api.OpSoftplus, top - 1, top - 1, top},
			{api.OpTanh, ofWidth(300, w), one - 1, one}, {api.OpTanh, ofWidth(-300, w), minus(one, w), minus(one-1, w)}, {api.OpSigmoid, ofWidth(300, w), one - 1, one},
		} {
			if got, e := elem.Around(x.op, x.b, w); got != (api.Span{Lo: x.lo, Hi: x.hi}) || e != api.OK {
				t.Errorf("width %d, %d: %#x, %v; want %#x, %#x", w, i, got, e, x.lo, x.hi)
			}
		}
	}
}

// TestP404EndsAndOrder: every answer is one of Around's ends, these are neighbours or one, and no answer falls.
func TestP404EndsAndOrder(t *testing.T) {
	r := rand.New(rand.NewSource(404))
	for _, w := range widths {
		var list []float64
		for _, x := range slices.Concat(edges(w), middles(w), turns(w), []float64{1e3, 1e5, 1e20, valueOf(inf(w)-1, w)}) {
			b := ofWidth(x, w)
			for _, c := range []int{max(0, b-1), b, min(b+1, inf(w)-1)} {
				list = append(list, valueOf(c, w), -valueOf(c, w))
			}
		}
		for range 500 {
			b := r.Intn(inf(w))
			list = append(list, some(r, w), valueOf(b, w), -valueOf(b, w))
		}
		slices.Sort(list)
		for _, c := range calls {
			rising(t, c, list, w)
		}
	}
}

// rising holds a call's answers of a list that rises.
func rising(t *testing.T, c call, list []float64, w int) {
	last, lo, hi := math.Inf(-1), math.Inf(-1), math.Inf(-1)
	for _, x := range list {
		if !has(c.op, x) {
			continue
		}
		b := ofWidth(x, w)
		near, _ := c.f(b, w)
		s, e := elem.Around(c.op, b, w)
		f, low, high := valueOf(near, w), valueOf(s.Lo, w), valueOf(s.Hi, w)
		if e != api.OK || near != s.Lo && near != s.Hi || low != high && beside(low, high, w) != high {
			t.Errorf("P404: %s(%v), width %d: %#x, and around it %#x, %v", c.name, x, w, near, s, e)
		}
		if _, ok := floats(c.op, x); ok != (low == high) {
			t.Errorf("P403: %s(%v), width %d: around it %#x", c.name, x, w, s)
		}
		if f < last || low < lo || high < hi {
			t.Errorf("P404: %s(%v), width %d: %#x, %#x falls", c.name, x, w, near, s)
		}
		last, lo, hi = f, low, high
	}
}

// TestP405AnswersHangOnArgumentsAlone: asked again, in another order, by many at once, all calls answer as before.
func TestP405AnswersHangOnArgumentsAlone(t *testing.T) {
	type told struct {
		b    int
		e    api.Errno
		s    api.Span
		f    api.Errno
		x    float64
		w, c int
	}
	r := rand.New(rand.NewSource(405))
	ask := func(x float64, w, c int) told {
		b := ofWidth(x, w)
		got, e := calls[c].f(b, w)
		s, f := elem.Around(calls[c].op, b, w)
		return told{got, e, s, f, x, w, c}
	}
	var first []told
	for i := range 300 {
		w := widths[i%2]
		first = append(first, ask(some(r, w), w, r.Intn(len(calls))))
	}
	again := make([]told, len(first))
	done := make(chan bool)
	for g := range 6 {
		go func() {
			for i := len(first) - 1 - g; i >= 0; i -= 6 {
				again[i] = ask(first[i].x, first[i].w, first[i].c)
			}
			done <- true
		}()
	}
	for range 6 {
		<-done
	}
	if !slices.Equal(first, again) {
		t.Error("asked again, calls answer otherwise")
	}
}

func TestErrors(t *testing.T) {
	for _, w := range noWidths {
		for _, b := range []int{0, 1, -1, b64(1), api.NaN, 1 << 32} {
			for _, c := range calls {
				if got, e := c.f(b, w); got != 0 || e != api.ErrWidth {
					t.Errorf("%s(%#x, %d): %#x, %v", c.name, b, w, got, e)
				}
			}
			for _, op := range []int{api.OpExp, api.OpAdd, -1} {
				if got, e := elem.Around(op, b, w); got != (api.Span{}) || e != api.ErrWidth {
					t.Errorf("Around(%d, %#x, %d): %#x, %v", op, b, w, got, e)
				}
			}
		}
	}
	for _, w := range widths {
		for op := -3; op < 80; op++ {
			five := slices.ContainsFunc(calls, func(c call) bool { return c.op == op })
			for _, b := range []int{0, -1, 1 << 32, api.NaN} {
				if got, e := elem.Around(op, b, w); !five && (got != (api.Span{}) || e != api.ErrOp) || five && e == api.ErrOp {
					t.Errorf("Around(%d, %#x, %d): %#x, %v", op, b, w, got, e)
				}
			}
		}
		for _, op := range []int{math.MaxInt, math.MinInt, api.OpExp + 1<<32} {
			if got, e := elem.Around(op, 0, w); got != (api.Span{}) || e != api.ErrOp {
				t.Errorf("Around(%d, 0, %d): %#x, %v", op, w, got, e)
			}
		}
	}
	for _, b := range []int{-1, -1 << 31, 1 << 32, 1<<32 + 0x3F800000, api.Inf, api.NaN, b64(1), math.MaxInt, math.MinInt} {
		for _, c := range calls {
			if got, e := c.f(b, 32); got != 0 || e != api.ErrBits {
				t.Errorf("%s(%#x, 32): %#x, %v", c.name, b, got, e)
			}
			if got, e := elem.Around(c.op, b, 32); got != (api.Span{}) || e != api.ErrBits {
				t.Errorf("Around(%d, %#x, 32): %#x, %v", c.op, b, got, e)
			}
		}
	}
}

func TestP403Refused(t *testing.T) {
	for _, w := range widths {
		plus, one := inf(w), ofWidth(1, w)
		ends := []int{plus, minus(plus, w), none(w), plus + 1, minus(plus+1, w), minus(none(w), w)}
		for _, c := range calls {
			list := ends
			if c.op == api.OpLog {
				list = append(slices.Clone(ends), 0, minus(0, w), minus(1, w), minus(one, w), minus(plus-1, w))
			}
			for _, b := range list {
				if got, e := elem.Around(c.op, b, w); got != (api.Span{}) || e != api.ErrArg {
					t.Errorf("Around(%d, %#x, %d): %#x, %v", c.op, b, w, got, e)
				}
			}
		}
	}
}

// ratOf tells an exact number.
func ratOf(x api.Num) *big.Rat {
	n := new(big.Int)
	for i := range x.Mag {
		n.Lsh(n, 30)
		n.Add(n, big.NewInt(int64(x.Mag[len(x.Mag)-1-i])))
	}
	if x.Neg {
		n.Neg(n)
	}
	f := new(big.Float).SetInt(n)
	r, _ := f.SetMantExp(f, x.Exp).Rat(nil)
	return r
}

// TestP401Bounds: with however many bits, the value lies between the bounds that they make, and far from both: nothing but luck would hide an error that is told as less than it is.
func TestP401Bounds(t *testing.T) {
	r := rand.New(rand.NewSource(406))
	list := []float64{1e-300, 1e-40, 0x1p-16, 0x1p-17, 0.69999, 0.7, 0.70001, 1.39999, 1.4, 1.40001, 700, 800, 1023}
	for range 60 {
		list = append(list, some(r, 64))
	}
	for _, x := range list {
		for _, c := range calls {
			if _, ok := floats(c.op, x); ok || !has(c.op, x) {
				continue
			}
			v, _ := realValue(c.op, x).Rat(nil)
			for _, bits := range []uint{96, 128, 192, 256} {
				low, high := elem.Bounds(c.op, x, bits)
				a, b := ratOf(low), ratOf(high)
				fifth := new(big.Rat).Mul(new(big.Rat).Sub(b, a), big.NewRat(1, 5))
				if v.Cmp(a.Add(a, fifth)) < 0 || v.Cmp(b.Sub(b, fifth)) > 0 {
					t.Errorf("%s(%v) with %d bits is not well between its bounds", c.name, x, bits)
				}
			}
		}
	}
}
