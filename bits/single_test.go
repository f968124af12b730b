package bits_test

import (
	"math"
	"testing"

	"pupil/api"
	"pupil/bits"
)

// checkPair holds the four operations on two patterns against the chapter.
func checkPair(t *testing.T, a, b, w int) {
	t.Helper()
	x, y := valueOf(a, w), valueOf(b, w)
	for _, o := range []struct {
		name string
		got  int
		want number
	}{
		{"Add", bits.Add(a, b, w), refSum(x, y)},
		{"Sub", bits.Sub(a, b, w), refSum(x, refNegated(y))},
		{"Mul", bits.Mul(a, b, w), refProduct(x, y)},
		{"Div", bits.Div(a, b, w), refQuotient(x, y)},
	} {
		if want := pattern(o.want, w); o.got != want {
			t.Fatalf("%s(%#x, %#x, %d): %#x, want %#x", o.name, a, b, w, o.got, want)
		}
	}
}

func TestP111Pairs(t *testing.T) {
	for _, w := range widths {
		l := append(edges(w), nones(w)[:4]...)
		for _, a := range l {
			for _, b := range l {
				checkPair(t, a, b, w)
			}
		}
		x, y := mixed(w, 6000, 4), mixed(w, 6000, 5)
		for i := range x {
			checkPair(t, x[i], y[i], w)
		}
	}
}

func TestP111Roots(t *testing.T) {
	for _, w := range widths {
		l := all(w, 6000)
		for i, n := 0, 1; i < 300; i, n = i+1, n+2*i+3 { // squares, and those next to them
			for d := -1; d <= 1; d++ {
				l = append(l, pattern(ofInt(n), w)+d)
			}
		}
		for _, a := range l {
			if got, want := bits.Sqrt(a, w), pattern(refRoot(valueOf(a, w)), w); got != want {
				t.Errorf("Sqrt(%#x, %d): %#x, want %#x", a, w, got, want)
			}
			if b := bits.Abs(a, w); bits.Sqrt(b, w) != pattern(refRoot(valueOf(b, w)), w) {
				t.Errorf("Sqrt(%#x, %d): %#x", b, w, bits.Sqrt(b, w))
			}
		}
	}
}

func checkFma(t *testing.T, a, b, c, w int) {
	t.Helper()
	want := pattern(refSum(refProduct(valueOf(a, w), valueOf(b, w)), valueOf(c, w)), w)
	if got := bits.Fma(a, b, c, w); got != want {
		t.Fatalf("Fma(%#x, %#x, %#x, %d): %#x, want %#x", a, b, c, w, got, want)
	}
}

func TestP111FmaOfEdges(t *testing.T) {
	for _, w := range widths {
		l := edges(w)
		l = append(l, nones(w)[0], nones(w)[len(nones(w))-1])
		for i, a := range l {
			for j, b := range l {
				for k := (i + j) % 3; k < len(l); k += 3 {
					checkFma(t, a, b, l[k], w)
				}
			}
		}
	}
}

// TestP111FmaRoundsOnce: thirds that lie about the product, about its negative, and far below it, where two roundings are not one.
func TestP111FmaRoundsOnce(t *testing.T) {
	for _, w := range widths {
		x, y, z := mixed(w, 6000, 6), mixed(w, 6000, 7), mixed(w, 6000, 8)
		f := tableOf(w).fraction
		for i := range x {
			checkFma(t, x[i], y[i], z[i], w)
			p := bits.Mul(x[i], y[i], w)
			for _, c := range []int{p, bits.Neg(p, w), bits.Next(bits.Neg(p, w), w), bits.Prev(p, w)} {
				checkFma(t, x[i], y[i], c, w)
			}
			_, mag, exp, ok := bits.Parts(p, w)
			for d := range 3 * f {
				if c, there := bits.Join(d%2 == 0, mag>>f, exp-f+d, w); ok && there && d%7 == i%7 {
					checkFma(t, x[i], y[i], c, w)
				}
			}
		}
	}
}

// TestP111FmaTies: sums that lie off a tie of binary32 by too little for binary64 to see, or by less than a step of it.
func TestP111FmaTies(t *testing.T) {
	tiny := b32(0x1p-149)
	thirds := []int{0, tiny, 1<<31 | tiny, b32(0x1p-100), b32(-0x1p-100), b32(0.5), b32(-0.5), b32(1), b32(-1)}
	for i := 1; i < 200; i += 2 {
		a, b := b32(float32(1<<12+i)), b32(float32(1<<12+200-i))
		for _, c := range thirds {
			checkFma(t, a, b, c, 32)
			checkFma(t, bits.Neg(a, 32), b, c, 32)
		}
	}
	// 65533 * 65539 is 2^32 - 9, 48145 * 89209 is 2^32 + 9: the products lie off 2^-24 by 9/16 of 2^-52.
	for _, x := range []struct{ a, b, c float32 }{{65533 * 0x1p-28, 65539 * 0x1p-28, 1 + 0x1p-23}, {48145 * 0x1p-28, 89209 * 0x1p-28, 1}} {
		a, b, c := b32(x.a), b32(x.b), b32(x.c)
		checkFma(t, a, b, c, 32)
		checkFma(t, bits.Neg(a, 32), b, bits.Neg(c, 32), 32)
	}
}

func TestP111Ends(t *testing.T) {
	const neg0, minus = -1 << 63, -1<<63 | api.Inf
	one, big := b64(1), api.Inf-1
	for i, x := range []struct{ got, want int }{
		{bits.Add(0, 0, 64), 0}, {bits.Add(neg0, neg0, 64), neg0}, {bits.Add(0, neg0, 64), 0}, {bits.Add(neg0, 0, 64), 0}, {bits.Add(one, b64(-1), 64), 0}, {bits.Sub(one, one, 64), 0}, {bits.Sub(neg0, 0, 64), neg0}, {bits.Sub(0, 0, 64), 0}, {bits.Sub(0, neg0, 64), 0}, {bits.Sub(neg0, neg0, 64), 0},
		{bits.Add(api.Inf, minus, 64), api.NaN}, {bits.Sub(api.Inf, api.Inf, 64), api.NaN}, {bits.Sub(api.Inf, minus, 64), api.Inf}, {bits.Add(minus, minus, 64), minus}, {bits.Add(one, minus, 64), minus},
		{bits.Mul(0, api.Inf, 64), api.NaN}, {bits.Mul(minus, neg0, 64), api.NaN}, {bits.Mul(minus, b64(-2), 64), api.Inf}, {bits.Mul(neg0, b64(-2), 64), 0}, {bits.Mul(0, b64(-2), 64), neg0},
		{bits.Div(0, neg0, 64), api.NaN}, {bits.Div(api.Inf, minus, 64), api.NaN}, {bits.Div(one, neg0, 64), minus}, {bits.Div(api.Inf, 0, 64), api.Inf}, {bits.Div(api.Inf, b64(-3), 64), minus}, {bits.Div(b64(-3), api.Inf, 64), neg0}, {bits.Div(neg0, b64(-3), 64), 0}, {bits.Div(0, minus, 64), neg0},
		{bits.Sqrt(api.Inf, 64), api.Inf}, {bits.Sqrt(minus, 64), api.NaN}, {bits.Sqrt(neg0+1, 64), api.NaN}, {bits.Sqrt(0, 64), 0}, {bits.Sqrt(neg0, 64), neg0},
		{bits.Add(big, b64(0x1p969), 64), big}, {bits.Add(big, b64(0x1p970), 64), api.Inf}, {bits.Sub(minus-1, b64(0x1p970), 64), minus}, {bits.Mul(big, b64(2), 64), api.Inf}, {bits.Div(1, b64(2), 64), 0}, {bits.Div(neg0+1, b64(2), 64), neg0}, {bits.Div(3, b64(2), 64), 2}, {bits.Div(1<<52, b64(2), 64), 1 << 51},
		{bits.Fma(0, api.Inf, api.NaN, 64), api.NaN}, {bits.Fma(big, big, minus, 64), minus}, {bits.Fma(big, api.Inf, minus, 64), api.NaN}, {bits.Fma(neg0, one, neg0, 64), neg0}, {bits.Fma(neg0, one, 0, 64), 0}, {bits.Fma(neg0+1, b64(0.5), neg0, 64), neg0}, {bits.Fma(neg0+1, b64(0.5), 0, 64), neg0},
		{bits.Fma(1<<31|1, b32(0.5), 0, 32), 1 << 31}, {bits.Fma(1<<31, b32(1), 1<<31, 32), 1 << 31}, {bits.Fma(api.Inf32-1, api.Inf32-1, 0xFF800000, 32), 0xFF800000}, {bits.Fma(api.Inf32-1, b32(2), bits.Neg(api.Inf32-1, 32), 32), api.Inf32 - 1}, {bits.Fma(0, api.Inf32, 0, 32), api.NaN32},
	} {
		if x.got != x.want {
			t.Errorf("end %d: %#x, want %#x", i, x.got, x.want)
		}
	}
}

// TestW6Narrowed: a single operation of binary32 is that of binary64, narrowed.
func TestW6Narrowed(t *testing.T) {
	wide := func(b int) int { return bits.Convert(b, 32, 64) }
	narrow := func(b int) int { return bits.Convert(b, 64, 32) }
	x, y := append(edges(32), mixed(32, 4000, 9)...), append(edges(32), mixed(32, 4000, 10)...)
	for i, a := range x {
		b := y[(i*37)%len(y)]
		if bits.Add(a, b, 32) != narrow(bits.Add(wide(a), wide(b), 64)) || bits.Sub(a, b, 32) != narrow(bits.Sub(wide(a), wide(b), 64)) || bits.Mul(a, b, 32) != narrow(bits.Mul(wide(a), wide(b), 64)) || bits.Div(a, b, 32) != narrow(bits.Div(wide(a), wide(b), 64)) || bits.Sqrt(a, 32) != narrow(bits.Sqrt(wide(a), 64)) {
			t.Errorf("%#x and %#x", a, b)
		}
	}
}

// TestExamples: the chapter's, as it has them.
func TestExamples(t *testing.T) {
	const neg0, minus = -1 << 63, -1<<63 | api.Inf
	for i, x := range []struct{ got, want int }{
		{bits.Class(0, 64), 0}, {bits.Class(neg0, 64), 0}, {bits.Class(1, 64), 1}, {bits.Class(-1, 64), 4}, {bits.Class(-1, 32), 4}, {bits.Class(1<<32, 32), 4}, {bits.Class(5, 16), 0},
		{bits.Next(neg0, 64), 1}, {bits.Next(0x7F7FFFFF, 32), 0x7F800000}, {bits.Prev(0, 32), 0x80000001},
		{bits.Add(0, neg0, 64), 0}, {bits.Mul(neg0, b64(5), 64), neg0}, {bits.Div(b64(-1), 0, 64), minus}, {bits.Sqrt(neg0, 64), neg0}, {bits.Sqrt(b64(-1), 64), api.NaN},
		{bits.Add(0x4B800000, 0x3F800000, 32), 0x4B800000}, {bits.Fma(b64(1+0x1p-52), b64(1+0x1p-52), b64(-(1 + 0x1p-51)), 64), b64(0x1p-104)},
		{bits.Min(0, neg0, 64), neg0}, {bits.Max(0, neg0, 64), 0}, {bits.Max(b64(1), api.NaN, 64), api.NaN},
		{bits.Convert(1, 32, 64), 0x36A0000000000000}, {bits.Convert(1, 64, 32), 0}, {bits.Convert(neg0+1, 64, 32), 1 << 31}, {bits.Convert(5, 64, 10), 0},
		{bits.FromInt(1<<53+1, 64), b64(0x1p53)}, {bits.FromInt(16777217, 32), 0x4B800000},
	} {
		if x.got != x.want {
			t.Errorf("example %d: %#x, want %#x", i, x.got, x.want)
		}
	}
	for _, x := range []struct {
		b, w, mag, exp int
		ok             bool
	}{{0x3FF0000000000000, 64, 1 << 52, -52, true}, {1, 32, 1, -149, true}, {0, 8, 0, 0, false}} {
		if neg, mag, exp, ok := bits.Parts(x.b, x.w); neg || mag != x.mag || exp != x.exp || ok != x.ok {
			t.Errorf("Parts(%#x, %d): %v %d %d %v", x.b, x.w, neg, mag, exp, ok)
		}
	}
	for _, x := range []struct {
		neg               bool
		mag, exp, w, want int
		ok                bool
	}{{false, 1 << 60, -1134, 64, 1, true}, {false, 1, -149, 32, 1, true}, {false, 1, 128, 32, 0, false}, {true, 0, 9, 32, 1 << 31, true}} {
		if got, ok := bits.Join(x.neg, x.mag, x.exp, x.w); got != x.want || ok != x.ok {
			t.Errorf("Join(%v, %d, %d, %d): %#x %v", x.neg, x.mag, x.exp, x.w, got, ok)
		}
	}
	if n, ok := bits.ToInt(b64(2.5), 64); n != 2 || !ok {
		t.Errorf("ToInt(2.5): %d %v", n, ok)
	}
	if n, ok := bits.ToInt(b64(math.Ldexp(1, 63)), 64); n != 0 || ok {
		t.Errorf("ToInt(2^63): %d %v", n, ok)
	}
}
