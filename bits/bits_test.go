package bits_test

import (
	"maps"
	"math"
	"math/big"
	"slices"
	"testing"

	"pupil/api"
	"pupil/bits"
)

var widths = []int{32, 64}

// noWidths are ints that are no width.
var noWidths = []int{0, 1, 8, 16, 31, 33, 63, 65, 80, 128, -1, -32, -64, 32 + 1<<32, 64 + 1<<32, math.MaxInt, math.MinInt}

func TestP101OtherWidthsAnswerZeros(t *testing.T) {
	args := append(all(64, 10), all(32, 10)...)
	for _, w := range noWidths {
		for i, a := range args {
			b := args[(i+7)%len(args)]
			for name, got := range answers(a, b, a, w) {
				if got != 0 {
					t.Fatalf("%s of %#x, %#x with width %d: %#x", name, a, b, w, got)
				}
			}
			for _, v := range widths {
				if bits.Convert(a, v, w) != 0 || bits.Convert(a, w, v) != 0 {
					t.Fatalf("Convert of %#x between the widths %d and %d", a, v, w)
				}
			}
			neg, mag, exp, ok := bits.Parts(a, w)
			_, there := bits.Join(true, 0, 0, w)
			_, whole := bits.ToInt(a, w)
			if bits.Valid(a, w) || bits.Less(a, b, w) || bits.Same(a, a, w) || neg || mag != 0 || exp != 0 || ok || there || whole {
				t.Fatalf("%#x with width %d is told as something", a, w)
			}
		}
	}
}

// answers are the ints that all calls with a width tell.
func answers(a, b, c, w int) map[string]int {
	joined, _ := bits.Join(a < 0, b, c, w)
	small, _ := bits.Join(a < 0, b&0xFFFF, c%64, w)
	nought, _ := bits.Join(true, 0, c, w)
	whole, _ := bits.ToInt(a, w)
	_, mag, exp, _ := bits.Parts(a, w)
	return map[string]int{
		"Class": bits.Class(a, w), "Next": bits.Next(a, w), "Prev": bits.Prev(a, w), "Neg": bits.Neg(a, w), "Abs": bits.Abs(a, w), "Canon": bits.Canon(a, w), "Order": bits.Order(a, b, w),
		"Add": bits.Add(a, b, w), "Sub": bits.Sub(a, b, w), "Mul": bits.Mul(a, b, w), "Div": bits.Div(a, b, w), "Sqrt": bits.Sqrt(a, w), "Fma": bits.Fma(a, b, c, w),
		"Min": bits.Min(a, b, w), "Max": bits.Max(a, b, w), "Convert": bits.Convert(a, w, w), "FromInt": bits.FromInt(a, w), "ToInt": whole,
		"Join": joined, "Join of a small one": small, "Join of 0": nought, "Parts, mag": mag, "Parts, exp": exp,
	}
}

func TestP102P103P105ClassAndValid(t *testing.T) {
	for _, w := range widths {
		for _, b := range all(w, 4000) {
			if got, want := bits.Class(b, w), valueOf(b, w).class; got != want {
				t.Errorf("Class(%#x, %d): %d, want %d", b, w, got, want)
			}
			if got, want := bits.Valid(b, w), w == 64 || b >= 0 && b <= 0xFFFFFFFF; got != want {
				t.Errorf("Valid(%#x, %d): %v", b, w, got)
			}
		}
	}
	for i, x := range []struct{ got, want int }{
		{bits.Class(0x000FFFFFFFFFFFFF, 64), api.IsSubnormal}, {bits.Class(0x0010000000000000, 64), api.IsNormal}, {bits.Class(0x7FEFFFFFFFFFFFFF, 64), api.IsNormal}, {bits.Class(0x7FF0000000000000, 64), api.IsInfinite}, {bits.Class(0x7FF0000000000001, 64), api.IsNaN}, {bits.Class(-1<<63|0x7FF0000000000000, 64), api.IsInfinite},
		{bits.Class(0x007FFFFF, 32), api.IsSubnormal}, {bits.Class(0x00800000, 32), api.IsNormal}, {bits.Class(0x7F7FFFFF, 32), api.IsNormal}, {bits.Class(0x7F800000, 32), api.IsInfinite}, {bits.Class(0x7F800001, 32), api.IsNaN}, {bits.Class(0xFF800000, 32), api.IsInfinite}, {bits.Class(1<<31, 32), api.IsZero},
		{bits.Class(0xFFFFFFFF, 32), api.IsNaN}, {bits.Class(1<<32, 32), api.IsNaN}, {bits.Class(1<<32|1, 32), api.IsNaN}, {bits.Class(-1<<63, 32), api.IsNaN}, {bits.Class(-1<<31, 32), api.IsNaN},
	} {
		if x.got != x.want {
			t.Errorf("class %d: %d, want %d", i, x.got, x.want)
		}
	}
	if !bits.Valid(0xFFFFFFFF, 32) || !bits.Valid(0, 32) || bits.Valid(1<<32, 32) || bits.Valid(-1, 32) || !bits.Valid(-1, 64) || bits.Valid(0, 16) {
		t.Error("Valid at the ends of the widths")
	}
}

func TestP104NoNumberHasOnePattern(t *testing.T) {
	for _, w := range widths {
		nan := tableOf(w).nan
		others := append(edges(w), nones(w)...)
		for _, a := range nones(w) {
			for _, got := range []int{bits.Next(a, w), bits.Prev(a, w), bits.Neg(a, w), bits.Abs(a, w), bits.Canon(a, w), bits.Sqrt(a, w), bits.Convert(a, w, w)} {
				if got != nan {
					t.Fatalf("a call of %#x, %d: %#x", a, w, got)
				}
			}
			if bits.Convert(a, w, 32) != api.NaN32 || bits.Convert(a, w, 64) != api.NaN {
				t.Fatalf("Convert of %#x, %d", a, w)
			}
			for _, b := range others {
				for _, got := range []int{bits.Add(a, b, w), bits.Add(b, a, w), bits.Sub(a, b, w), bits.Sub(b, a, w), bits.Mul(a, b, w), bits.Mul(b, a, w), bits.Div(a, b, w), bits.Div(b, a, w), bits.Min(a, b, w), bits.Min(b, a, w), bits.Max(a, b, w), bits.Max(b, a, w), bits.Fma(a, b, b, w), bits.Fma(b, a, b, w), bits.Fma(b, b, a, w)} {
					if got != nan {
						t.Fatalf("a call of %#x and %#x, %d: %#x", a, b, w, got)
					}
				}
			}
		}
	}
}

func TestP106Parts(t *testing.T) {
	for _, w := range widths {
		for _, b := range all(w, 4000) {
			n := valueOf(b, w)
			neg, mag, exp, ok := bits.Parts(b, w)
			if n.class >= api.IsInfinite {
				if neg || mag != 0 || exp != 0 || ok {
					t.Errorf("Parts(%#x, %d): %v %d %d %v", b, w, neg, mag, exp, ok)
				}
				continue
			}
			if neg != n.neg || n.num.Cmp(big.NewInt(int64(mag))) != 0 || exp != n.exp || !ok {
				t.Errorf("Parts(%#x, %d): %v %d %d %v", b, w, neg, mag, exp, ok)
			}
		}
	}
	for _, x := range []struct {
		b, w     int
		neg      bool
		mag, exp int
	}{{-1 << 63, 64, true, 0, -1074}, {1 << 31, 32, true, 0, -149}, {0, 32, false, 0, -149}, {1<<52 - 1, 64, false, 1<<52 - 1, -1074}, {1 << 52, 64, false, 1 << 52, -1074}, {api.Inf - 1, 64, false, 1<<53 - 1, 971}, {1 << 23, 32, false, 1 << 23, -149}, {0x80800001, 32, true, 1<<23 + 1, -149}, {api.Inf32 - 1, 32, false, 1<<24 - 1, 104}} {
		if neg, mag, exp, ok := bits.Parts(x.b, x.w); neg != x.neg || mag != x.mag || exp != x.exp || !ok {
			t.Errorf("Parts(%#x, %d): %v %d %d %v", x.b, x.w, neg, mag, exp, ok)
		}
	}
}

// joinWants tells what Join must answer.
func joinWants(neg bool, mag, exp, w int) (int, bool) {
	switch {
	case mag < 0:
		return 0, false
	case mag > 0 && (exp < -3000 || exp > 3000):
		return 0, false
	case mag == 0:
		exp = 0
	}
	n := finite(neg, big.NewInt(int64(mag)), exp)
	b := pattern(n, w)
	if got := valueOf(b, w); got.class == api.IsInfinite || compare(n, got) != 0 {
		return 0, false
	}
	return b, true
}

func TestP107Join(t *testing.T) {
	mags := []int{0, 1, 2, 3, 1<<23 - 1, 1 << 23, 1<<24 - 1, 1 << 24, 1<<24 + 1, 1<<25 - 2, 1<<52 - 1, 1 << 52, 1<<53 - 1, 1 << 53, 1<<53 + 1, 1<<54 - 2, 1<<62 - 1<<9, 1 << 60, 1 << 62, 1<<62 + 1, math.MaxInt, -1, -1 << 52, math.MinInt}
	exps := []int{math.MinInt, math.MinInt + 1, -1 << 40, -2001, -2000, -1999, 2000, 2001, 1 << 40, math.MaxInt - 62, math.MaxInt - 1, math.MaxInt}
	for exp := -1210; exp <= 1100; exp++ {
		if exp < -1000 || exp > 900 || exp > -300 && exp < 200 {
			exps = append(exps, exp)
		}
	}
	for _, w := range widths {
		for _, mag := range mags {
			for i, exp := range exps {
				neg := i%2 == 1
				want, there := joinWants(neg, mag, exp, w)
				if got, ok := bits.Join(neg, mag, exp, w); got != want || ok != there {
					t.Fatalf("Join(%v, %d, %d, %d): %#x %v, want %#x %v", neg, mag, exp, w, got, ok, want, there)
				}
			}
		}
		for _, b := range all(w, 2000) {
			if neg, mag, exp, ok := bits.Parts(b, w); ok {
				if got, there := bits.Join(neg, mag, exp, w); got != b || !there {
					t.Fatalf("Join of the parts of %#x, %d: %#x %v", b, w, got, there)
				}
			}
		}
	}
}

func TestP108Neighbours(t *testing.T) {
	up, up32 := math.Inf(1), float32(math.Inf(1))
	for _, b := range append(edges(64), mixed(64, 4000, 1)...) {
		if f := math.Float64frombits(uint64(b)); f == f {
			if want := b64(math.Nextafter(f, up)); bits.Next(b, 64) != want {
				t.Errorf("Next(%#x, 64): %#x, want %#x", b, bits.Next(b, 64), want)
			}
			if want := -1<<63 ^ b64(math.Nextafter(-f, up)); bits.Prev(b, 64) != want {
				t.Errorf("Prev(%#x, 64): %#x, want %#x", b, bits.Prev(b, 64), want)
			}
		}
	}
	for _, b := range append(edges(32), mixed(32, 4000, 1)...) {
		if f := math.Float32frombits(uint32(b)); f == f {
			if want := b32(math.Nextafter32(f, up32)); bits.Next(b, 32) != want {
				t.Errorf("Next(%#x, 32): %#x, want %#x", b, bits.Next(b, 32), want)
			}
			if want := 1<<31 ^ b32(math.Nextafter32(-f, up32)); bits.Prev(b, 32) != want {
				t.Errorf("Prev(%#x, 32): %#x, want %#x", b, bits.Prev(b, 32), want)
			}
		}
	}
	const neg0, minus, minus32 = -1 << 63, -1<<63 | api.Inf, 0xFF800000
	for i, x := range []struct{ got, want int }{
		{bits.Next(0, 64), 1}, {bits.Next(neg0, 64), 1}, {bits.Next(neg0+1, 64), neg0}, {bits.Next(api.Inf-1, 64), api.Inf}, {bits.Next(api.Inf, 64), api.Inf}, {bits.Next(minus, 64), minus - 1}, {bits.Next(-1, 64), api.NaN},
		{bits.Prev(0, 64), neg0 + 1}, {bits.Prev(neg0, 64), neg0 + 1}, {bits.Prev(1, 64), 0}, {bits.Prev(minus-1, 64), minus}, {bits.Prev(minus, 64), minus}, {bits.Prev(api.Inf, 64), api.Inf - 1}, {bits.Prev(-1, 64), api.NaN},
		{bits.Next(1<<31, 32), 1}, {bits.Next(1<<31+1, 32), 1 << 31}, {bits.Next(minus32, 32), minus32 - 1}, {bits.Next(1<<32, 32), api.NaN32}, {bits.Prev(1<<31, 32), 1<<31 + 1}, {bits.Prev(minus32, 32), minus32}, {bits.Prev(1, 32), 0},
	} {
		if x.got != x.want {
			t.Errorf("neighbour %d: %#x, want %#x", i, x.got, x.want)
		}
	}
}

func TestP109NegAbsCanon(t *testing.T) {
	for _, w := range widths {
		sign := 1 << (w - 1)
		for _, b := range all(w, 4000) {
			neg, abs, canon := b^sign, b&^sign, b
			switch valueOf(b, w).class {
			case api.IsNaN:
				neg, abs, canon = tableOf(w).nan, tableOf(w).nan, tableOf(w).nan
			case api.IsZero:
				canon = 0
			}
			if bits.Neg(b, w) != neg || bits.Abs(b, w) != abs || bits.Canon(b, w) != canon {
				t.Errorf("%#x, %d: Neg %#x, Abs %#x, Canon %#x", b, w, bits.Neg(b, w), bits.Abs(b, w), bits.Canon(b, w))
			}
		}
	}
}

// orderWants tells what Order must answer.
func orderWants(a, b, w int) int {
	x, y := valueOf(a, w), valueOf(b, w)
	switch {
	case x.class == api.IsNaN && y.class == api.IsNaN:
		return 0
	case x.class == api.IsNaN:
		return 1
	case y.class == api.IsNaN:
		return -1
	case x.class == api.IsZero && y.class == api.IsZero && x.neg != y.neg:
		if x.neg {
			return -1
		}
		return 1
	}
	return compare(x, y)
}

func TestP110LessSameOrder(t *testing.T) {
	for _, w := range widths {
		l := all(w, 60)
		for _, a := range l {
			for _, b := range l {
				x, y := valueOf(a, w), valueOf(b, w)
				both := x.class != api.IsNaN && y.class != api.IsNaN
				if got, want := bits.Less(a, b, w), both && compare(x, y) < 0; got != want {
					t.Fatalf("Less(%#x, %#x, %d): %v", a, b, w, got)
				}
				if got, want := bits.Same(a, b, w), both && compare(x, y) == 0; got != want {
					t.Fatalf("Same(%#x, %#x, %d): %v", a, b, w, got)
				}
				if got, want := bits.Order(a, b, w), orderWants(a, b, w); got != want {
					t.Fatalf("Order(%#x, %#x, %d): %d, want %d", a, b, w, got, want)
				}
			}
		}
	}
}

func TestP112MinMax(t *testing.T) {
	for _, w := range widths {
		l := append(append(edges(w), nones(w)...), mixed(w, 60, 2)...)
		for _, a := range l {
			for _, b := range l {
				less, more := a, b
				if orderWants(a, b, w) > 0 {
					less, more = b, a
				}
				if valueOf(a, w).class == api.IsNaN || valueOf(b, w).class == api.IsNaN {
					less, more = tableOf(w).nan, tableOf(w).nan
				}
				if bits.Min(a, b, w) != less || bits.Max(a, b, w) != more {
					t.Fatalf("%#x, %#x, %d: Min %#x, Max %#x", a, b, w, bits.Min(a, b, w), bits.Max(a, b, w))
				}
			}
		}
	}
}

func TestP113Convert(t *testing.T) {
	for _, from := range widths {
		l := append(all(from, 4000), ties(from)...)
		for _, to := range widths {
			for _, b := range l {
				if got, want := bits.Convert(b, from, to), pattern(valueOf(b, from), to); got != want {
					t.Errorf("Convert(%#x, %d, %d): %#x, want %#x", b, from, to, got, want)
				}
			}
		}
	}
}

// ties are binary64s about the midpoints of binary32s, subnormal, normal and beyond the greatest one.
func ties(w int) []int {
	if w == 32 {
		return nil
	}
	var l []int
	for _, f := range []float64{0x1p-150, 0x1.8p-149, 0x1.4p-147, 0x1.000001p0, 0x1.000003p0, 0x1.fffffefp127, 0x1.ffffffp127, 0x1.fffffep127, 0x1p128, 0x1.fffffdp-127, 0x1.fffffep-127} {
		for d := -1; d <= 1; d++ {
			l = append(l, b64(f)+d, b64(-f)+d)
		}
	}
	return l
}

func TestP113FromInt(t *testing.T) {
	l := []int{0, 1, -1, 7, 1<<24 - 1, 1 << 24, 1<<24 + 1, 1<<24 + 2, 1<<24 + 3, -(1<<24 + 1), 1<<53 - 1, 1 << 53, 1<<53 + 1, 1<<53 + 3, -(1<<53 + 1), math.MaxInt, math.MinInt, math.MinInt + 1, 1<<62 + 1<<38, 1<<62 + 1<<38 + 1, 1<<62 + 1<<38 - 1, 1<<62 + 3<<38, math.MaxInt - 511, math.MaxInt - 512}
	for i, b := range mixed(64, 2000, 3) {
		l = append(l, b>>(i%60))
	}
	for _, w := range widths {
		for _, n := range l {
			if got, want := bits.FromInt(n, w), pattern(ofInt(n), w); got != want {
				t.Errorf("FromInt(%d, %d): %#x, want %#x", n, w, got, want)
			}
		}
	}
}

func TestP113ToInt(t *testing.T) {
	for _, w := range widths {
		l := all(w, 2000)
		for _, f := range []float64{0.5, 1.5, 2.5, 3.5, 0x1p52 + 0.5, 0x1p52 - 0.5, 0x1p53, 0x1p62, 0x1p63, 0x1p64, 0x1.fffffep22, 0x1.fffffep21, 0x1p30 + 0.5, 1e300, 8388607.5, 4194303.5} {
			for d := -1; d <= 1; d++ {
				l = append(l, pattern(valueOf(b64(f), 64), w)+d, pattern(valueOf(b64(-f), 64), w)+d)
			}
		}
		for _, b := range l {
			n := valueOf(b, w)
			want, ok := 0, n.class < api.IsInfinite
			if ok {
				whole := units(n, 0)
				if n.neg {
					whole.Neg(whole)
				}
				if ok = whole.IsInt64(); ok {
					want = int(whole.Int64())
				}
			}
			if got, there := bits.ToInt(b, w); got != want || there != ok {
				t.Errorf("ToInt(%#x, %d): %d %v, want %d %v", b, w, got, there, want, ok)
			}
		}
	}
}

func TestP114Floats(t *testing.T) {
	for _, b := range all(64, 2000) {
		f := math.Float64frombits(uint64(b))
		if got := bits.Float(b); math.IsNaN(f) && !math.IsNaN(got) || !math.IsNaN(f) && b64(got) != b {
			t.Errorf("Float(%#x): %v", b, got)
		}
		want := b
		if math.IsNaN(f) {
			want = api.NaN
		}
		if bits.Of(f) != want {
			t.Errorf("Of(%v): %#x, want %#x", f, bits.Of(f), want)
		}
	}
	for _, b := range all(32, 2000) {
		f := bits.Float32(b)
		if valueOf(b, 32).class == api.IsNaN {
			if f == f || bits.Of32(f) != api.NaN32 {
				t.Errorf("Float32(%#x): %v", b, f)
			}
		} else if b32(f) != b || bits.Of32(f) != b {
			t.Errorf("Float32(%#x): %v, Of32 %#x", b, f, bits.Of32(f))
		}
	}
	for _, b := range []int{0x7F800001, 0xFFFFFFFF, 0x7FC00000} {
		if got := bits.Of32(math.Float32frombits(uint32(b))); got != api.NaN32 {
			t.Errorf("Of32 of the pattern %#x: %#x", b, got)
		}
	}
}

func TestP115AnswersHangOnArgumentsAlone(t *testing.T) {
	l := append(all(64, 20), all(32, 20)...)
	ask := func(i int) []int {
		var told []int
		for j, b := range l {
			for _, w := range []int{32, 64, 7} {
				m := answers(l[i], b, l[(i+j)%len(l)], w)
				for _, name := range slices.Sorted(maps.Keys(m)) {
					told = append(told, m[name])
				}
			}
		}
		return told
	}
	first := make([][]int, len(l))
	for i := range l {
		first[i] = ask(i)
	}
	again := make([][]int, len(l))
	done := make(chan bool)
	for i := range l {
		go func() {
			at := len(l) - 1 - i
			again[at] = ask(at)
			done <- true
		}()
	}
	for range l {
		<-done
	}
	for i := range l {
		if !slices.Equal(first[i], again[i]) {
			t.Errorf("the answers about %#x are other ones the second time", l[i])
		}
	}
}
