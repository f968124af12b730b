package exact_test

import (
	"math"
	"math/big"
	"math/rand"
	"runtime"
	"slices"
	"testing"

	"pupil/api"
	"pupil/exact"
)

func TestP201Valid(t *testing.T) {
	for i, x := range invalid() {
		if exact.Valid(x) {
			t.Errorf("%d: %v counts as valid", i, x)
		}
	}
	greatest := slices.Repeat([]int{1}, api.MaxDigits)
	good := []api.Num{{}, {Mag: []int{}}, {Mag: greatest}, {Neg: true, Mag: greatest, Exp: -api.MaxExp}, num(false, 1, 0), num(true, 1, 0), num(false, digitTop, 3), num(false, 1, api.MaxExp), num(true, 1, -api.MaxExp), {Mag: []int{1, 0, 1}}, {Mag: []int{digitTop, digitTop}, Exp: api.MaxExp}, {Mag: []int{1, 1 << 29}}}
	for i, x := range good {
		if !exact.Valid(x) {
			t.Errorf("%d: does not count as valid", i)
		}
	}
	r := rand.New(rand.NewSource(201))
	for range 2000 {
		x := some(r, 6, 3000)
		if again := mustNum(whole(x.Neg, x.Mag), x.Exp); !exact.Valid(x) || !same(x, again) {
			t.Fatalf("%v and %v are one number", x, again)
		}
	}
}

// call is a call that tells a Num.
type call struct {
	name string
	of   func(a, b api.Num) (api.Num, api.Errno)
	two  bool
}

func calls() []call {
	one := func(f func(api.Num) (api.Num, api.Errno)) func(a, b api.Num) (api.Num, api.Errno) {
		return func(a, _ api.Num) (api.Num, api.Errno) { return f(a) }
	}
	scale := func(x api.Num) (api.Num, api.Errno) { return exact.Scale(x, 5) }
	return []call{{"Add", exact.Add, true}, {"Sub", exact.Sub, true}, {"Mul", exact.Mul, true}, {"Neg", one(exact.Neg), false}, {"Scale", one(scale), false}}
}

func TestP202WhatIsNoNumber(t *testing.T) {
	good := []api.Num{{}, num(false, 1, 0), num(true, 3, api.MaxExp)}
	for _, bad := range invalid() {
		for _, x := range append(good, bad) {
			for _, c := range calls() {
				if got, e := c.of(bad, x); e != api.ErrNum || !isZero(got) {
					t.Errorf("%s of %v: %v, %v", c.name, bad, got, e)
				}
				if got, e := c.of(x, bad); c.two && (e != api.ErrNum || !isZero(got)) {
					t.Errorf("%s with %v: %v, %v", c.name, bad, got, e)
				}
			}
			for _, pair := range [][2]api.Num{{bad, x}, {x, bad}} {
				if got, e := exact.Cmp(pair[0], pair[1]); e != api.ErrNum || got != 0 {
					t.Errorf("Cmp with %v: %v, %v", bad, got, e)
				}
				if got, other, e := exact.Quot(pair[0], pair[1], 64, exact.Near); e != api.ErrNum || got != 0 || other {
					t.Errorf("Quot with %v: %v, %v", bad, got, e)
				}
			}
		}
		if got, e := exact.Sign(bad); e != api.ErrNum || got != 0 {
			t.Errorf("Sign of %v: %v, %v", bad, got, e)
		}
		if got, other, e := exact.Round(bad, 64, exact.Near); e != api.ErrNum || got != 0 || other {
			t.Errorf("Round of %v: %v, %v", bad, got, e)
		}
		if got, other, e := exact.Root(bad, 64, exact.Near); e != api.ErrNum || got != 0 || other {
			t.Errorf("Root of %v: %v, %v", bad, got, e)
		}
	}
}

// roundings are the three calls that round, each with numbers that have an error of their own, or none.
func roundings(x, y api.Num) map[string]func(w, way int) (int, bool, api.Errno) {
	return map[string]func(w, way int) (int, bool, api.Errno){
		"Round": func(w, way int) (int, bool, api.Errno) { return exact.Round(x, w, way) },
		"Quot":  func(w, way int) (int, bool, api.Errno) { return exact.Quot(x, y, w, way) },
		"Root":  func(w, way int) (int, bool, api.Errno) { return exact.Root(x, w, way) },
	}
}

func TestP202WidthsAndWays(t *testing.T) {
	numbers := []api.Num{{}, num(false, 3, 0), num(true, 1, 0), num(false, 2, 0), {Neg: true}}
	for _, x := range numbers {
		for _, y := range numbers {
			for name, round := range roundings(x, y) {
				for _, w := range noWidths {
					for _, way := range append(noWays, ways...) {
						if got, other, e := round(w, way); e != api.ErrWidth || got != 0 || other {
							t.Errorf("%s with width %d and way %d: %v, %v, %v", name, w, way, got, other, e)
						}
					}
				}
				for _, way := range noWays {
					for _, w := range widths {
						if got, other, e := round(w, way); e != api.ErrArg || got != 0 || other {
							t.Errorf("%s with way %d: %v, %v, %v", name, way, got, other, e)
						}
					}
				}
			}
		}
	}
	for _, w := range noWidths {
		for _, b := range []int{0, 1, -1, api.Inf, api.NaN} {
			if got, e := exact.Of(b, w); e != api.ErrWidth || !isZero(got) {
				t.Errorf("Of(%d, %d): %v, %v", b, w, got, e)
			}
		}
	}
}

func TestP202NumbersBeforeTheirOwnErrors(t *testing.T) {
	for _, w := range widths {
		for _, way := range ways {
			if got, other, e := exact.Quot(num(false, 2, 0), api.Num{}, w, way); e != api.ErrNum || got != 0 || other {
				t.Errorf("Quot of no number by 0: %v", e)
			}
			if got, other, e := exact.Root(num(true, 2, 0), w, way); e != api.ErrNum || got != 0 || other {
				t.Errorf("Root of no number below 0: %v", e)
			}
		}
	}
}

// wants holds an answer against n times 2^exp.
func wants(t *testing.T, name string, got api.Num, e api.Errno, n *big.Int, exp int) {
	t.Helper()
	want, ok := numOf(n, exp)
	if ok && (e != api.OK || !same(got, want) || len(want.Mag) == 0 && got.Mag != nil) {
		t.Errorf("%s: %v, %v, want %v", name, got, e, want)
	}
	if !ok && (e != api.ErrLong || !isZero(got)) {
		t.Errorf("%s: %v, %v, want ErrLong", name, got, e)
	}
}

// aligned tells both numbers as whole ones times one power of 2.
func aligned(a, b api.Num) (*big.Int, *big.Int, int) {
	low := min(a.Exp, b.Exp)
	n, m := whole(a.Neg, a.Mag), whole(b.Neg, b.Mag)
	return n.Lsh(n, uint(a.Exp-low)), m.Lsh(m, uint(b.Exp-low)), low
}

// held holds Add, Sub, Mul, Cmp of two numbers, and Neg and Sign of the first one, against what they must tell.
func held(t *testing.T, a, b api.Num) {
	t.Helper()
	n, m, low := aligned(a, b)
	got, e := exact.Add(a, b)
	wants(t, "Add", got, e, new(big.Int).Add(n, m), low)
	got, e = exact.Sub(a, b)
	wants(t, "Sub", got, e, new(big.Int).Sub(n, m), low)
	got, e = exact.Mul(a, b)
	wants(t, "Mul", got, e, new(big.Int).Mul(whole(a.Neg, a.Mag), whole(b.Neg, b.Mag)), a.Exp+b.Exp)
	got, e = exact.Neg(a)
	wants(t, "Neg", got, e, whole(!a.Neg, a.Mag), a.Exp)
	if c, e := exact.Cmp(a, b); c != n.Cmp(m) || e != api.OK {
		t.Errorf("Cmp(%v, %v): %d, %v", a, b, c, e)
	}
	if s, e := exact.Sign(a); s != n.Sign() || e != api.OK {
		t.Errorf("Sign(%v): %d, %v", a, s, e)
	}
}

func TestP202P204TooLong(t *testing.T) {
	const bits = 30 * api.MaxDigits
	one, minus := num(false, 1, 0), num(true, 1, 0)
	list := []api.Num{{}, one, minus, num(false, 3, -1), num(false, 1, bits), num(false, 1, bits-1), num(true, 1, bits+1), num(false, 1, bits+2), num(false, 1, bits+3), num(false, 3, bits), num(true, 3, bits-1), num(true, 1, bits-2), num(false, 1, 70000), num(false, digitTop, bits-30), num(false, digitTop, bits-29),
		long(bits, 0), long(bits, -1), long(bits, 1), long(bits-1, 0), long(bits-1, 1), long(bits-30, 30), long(bits/2, 0), long(bits/2+1, 0), long(bits/2-1, 5), {Neg: true, Mag: long(bits, 0).Mag}, {Neg: true, Mag: long(bits, 0).Mag, Exp: 1}, {Neg: true, Mag: long(bits-1, 0).Mag, Exp: 2}}
	for _, exp := range []int{api.MaxExp, api.MaxExp - 1, api.MaxExp / 2, api.MaxExp/2 + 1, -api.MaxExp, 1 - api.MaxExp, -api.MaxExp / 2, -api.MaxExp/2 - 1} {
		list = append(list, num(false, 1, exp), num(true, 1, exp), num(false, 3, exp))
	}
	list = append(list, long(bits, api.MaxExp), long(bits, -api.MaxExp), long(bits-1, -api.MaxExp))
	for _, a := range list {
		for _, b := range list {
			held(t, a, b)
		}
	}
}

// bytesOf tells how many bytes a call takes.
func bytesOf(f func()) uint64 {
	const times = 100
	var before, after runtime.MemStats
	runtime.ReadMemStats(&before)
	for range times {
		f()
	}
	runtime.ReadMemStats(&after)
	return (after.TotalAlloc - before.TotalAlloc) / times
}

func TestP202TooLongIsNotLaidOut(t *testing.T) {
	high, low := num(false, 1, api.MaxExp), num(true, 1, -api.MaxExp)
	half := long(30*api.MaxDigits/2+1, 0)
	far, full := long(2000, api.MaxExp), long(30*api.MaxDigits, 0)
	for name, f := range map[string]func() (api.Num, api.Errno){
		"Add":                   func() (api.Num, api.Errno) { return exact.Add(high, low) },
		"Sub":                   func() (api.Num, api.Errno) { return exact.Sub(low, high) },
		"Mul":                   func() (api.Num, api.Errno) { return exact.Mul(half, half) },
		"Mul, full":             func() (api.Num, api.Errno) { return exact.Mul(full, full) },
		"Mul, by the exponents": func() (api.Num, api.Errno) { return exact.Mul(far, far) },
		"Scale":                 func() (api.Num, api.Errno) { return exact.Scale(num(false, 3, 0), math.MaxInt) },
		"Make":                  func() (api.Num, api.Errno) { return exact.Make(false, []int{6}, math.MaxInt) },
	} {
		if got, e := f(); e != api.ErrLong || !isZero(got) {
			t.Errorf("%s: %v, %v", name, got, e)
		}
		if n := bytesOf(func() { f() }); n > 500 {
			t.Errorf("%s takes %d bytes", name, n)
		}
	}
}

func TestP203Make(t *testing.T) {
	const bits = 30 * api.MaxDigits
	top := make([]int, api.MaxDigits)
	top[api.MaxDigits-1] = 1 << 29
	full := slices.Repeat([]int{digitTop}, api.MaxDigits)
	for _, mag := range [][]int{nil, {}, {0}, {0, 0}, {1}, {2}, {6}, {5, 0}, {0, 6, 0, 0}, {digitTop}, {1 << 29}, {0, 1 << 29}, {0, 1}, {2, 3}, {digitTop - 1, digitTop, 1}, top, full, make([]int, api.MaxDigits)} {
		for _, exp := range []int{0, 1, -1, 99, api.MaxExp, api.MaxExp - 1, api.MaxExp + 1, api.MaxExp - 30, api.MaxExp - 31, api.MaxExp - bits + 1, api.MaxExp - bits + 2, -api.MaxExp, -api.MaxExp - 1, -api.MaxExp - 2, -api.MaxExp - 30, -api.MaxExp - 59, -api.MaxExp - 60, -api.MaxExp - bits, -api.MaxExp - bits + 1, -api.MaxExp - bits + 2, 1 << 62, math.MaxInt, math.MaxInt - 1, math.MaxInt - 29, math.MaxInt - bits, math.MinInt, math.MinInt + bits} {
			for _, neg := range []bool{false, true} {
				got, e := exact.Make(neg, mag, exp)
				wants(t, "Make", got, e, whole(neg, mag), exp)
			}
		}
	}
	r := rand.New(rand.NewSource(203))
	for range 3000 {
		mag, exp := mixed(r, r.Intn(8)), r.Intn(4000)-2000
		got, e := exact.Make(true, mag, exp)
		wants(t, "Make", got, e, whole(true, mag), exp)
	}
}

func TestP203MakeOfNoDigits(t *testing.T) {
	long := make([]int, api.MaxDigits+1)
	ones := slices.Repeat([]int{1}, api.MaxDigits+1)
	for _, mag := range [][]int{{1 << 30}, {-1}, {1, -1}, {1, 1 << 30, 1}, {math.MinInt}, {math.MaxInt}, {1 << 32}, {1, 1 << 62}, long, ones} {
		for _, exp := range []int{0, math.MaxInt, math.MinInt} {
			if got, e := exact.Make(true, mag, exp); e != api.ErrNum || !isZero(got) {
				t.Errorf("Make of no digits: %v, %v", got, e)
			}
		}
	}
}

// TestColumns: what the layers below make their sums of.
func TestColumns(t *testing.T) {
	r := rand.New(rand.NewSource(208))
	ends := []int{0, 1, -1, digitTop, -digitTop, 1 << 30, -1 << 30, math.MaxInt, math.MinInt, math.MinInt + 1, math.MaxInt - 1, 1 << 62, -1 << 62}
	for i := range 6000 {
		columns := make([]int, r.Intn(9))
		for j := range columns {
			columns[j] = int(r.Uint64()) >> r.Intn(64)
			if i%2 == 0 {
				columns[j] = ends[r.Intn(len(ends))]
			}
		}
		want := new(big.Int)
		for j := range columns {
			want.Lsh(want, 30).Add(want, big.NewInt(int64(columns[len(columns)-1-j])))
		}
		was, exp := slices.Clone(columns), []int{0, -1074, 77, api.MaxExp, -api.MaxExp - 30, math.MaxInt, math.MinInt}[r.Intn(7)]
		got, e := exact.Columns(columns, exp)
		wants(t, "Columns", got, e, want, exp)
		if !slices.Equal(was, columns) {
			t.Fatal("columns that are handed in are changed")
		}
	}
	full := slices.Repeat([]int{-1}, api.MaxDigits+1)
	if got, e := exact.Columns(full, 0); e != api.ErrLong || !isZero(got) {
		t.Errorf("columns too many: %v, %v", got, e)
	}
}

func TestP203Int(t *testing.T) {
	list := []int{0, 1, -1, 2, -2, 12, -12, digitTop, 1 << 30, 1<<30 + 1, 1<<60 - 1, 1 << 60, 1<<60 + 1, math.MaxInt, math.MinInt, math.MinInt + 1}
	r := rand.New(rand.NewSource(204))
	for range 1000 {
		list = append(list, int(r.Uint64())>>r.Intn(64))
	}
	for _, n := range list {
		wants(t, "Int", exact.Int(n), api.OK, big.NewInt(int64(n)), 0)
	}
}

func TestP203Of(t *testing.T) {
	r := rand.New(rand.NewSource(205))
	for _, w := range widths {
		list := edges(w)
		for range 1000 {
			list = append(list, r.Intn(infinity(w)))
		}
		for _, b := range list {
			for _, signed := range []int{b, b | 1<<(w-1)} {
				got, e := exact.Of(signed, w)
				want := value(signed, w)
				wants(t, "Of", got, e, want.Num(), 1-want.Denom().BitLen())
			}
		}
		sign, inf := 1<<(w-1), infinity(w)
		for _, b := range []int{inf, inf | sign, inf + 1, inf + 1 | sign, sign - 1, 2*sign - 1} {
			if got, e := exact.Of(b, w); e != api.ErrBits || !isZero(got) {
				t.Errorf("Of(%#x, %d): %v, %v", b, w, got, e)
			}
		}
	}
	for _, b := range []int{-1, 1 << 32, 1<<32 + 1, math.MinInt, -1 << 31, 1 << 62} {
		if got, e := exact.Of(b, 32); e != api.ErrBits || !isZero(got) {
			t.Errorf("Of(%#x, 32): %v, %v", b, got, e)
		}
	}
}

func TestP204P205AsCalled(t *testing.T) {
	r := rand.New(rand.NewSource(206))
	for i := range 6000 {
		reach := []int{0, 5, 40, 300, 3000}[i%5]
		a, b := some(r, 6, reach), some(r, 6, reach)
		held(t, a, b)
		held(t, a, a)
		held(t, a, api.Num{Neg: !a.Neg, Mag: a.Mag, Exp: a.Exp})
		held(t, a, api.Num{Neg: a.Neg, Mag: a.Mag, Exp: a.Exp + 1})
		held(t, a, api.Num{})
		held(t, api.Num{}, a)
	}
	held(t, api.Num{}, api.Num{})
	held(t, api.Num{Mag: []int{}}, api.Num{Mag: []int{}})
	for range 20 {
		held(t, some(r, api.MaxDigits, 20000), some(r, api.MaxDigits, 20000))
	}
}

func TestP204Neighbours(t *testing.T) {
	r := rand.New(rand.NewSource(207))
	for range 3000 {
		a := some(r, 5, 50)
		n := whole(a.Neg, a.Mag)
		for _, step := range []int64{1, -1, 2, -2, 1 << 30} {
			if b, ok := numOf(new(big.Int).Add(n, big.NewInt(step)), a.Exp); ok {
				held(t, a, b)
				held(t, b, a)
			}
		}
	}
}

func TestP204Scale(t *testing.T) {
	list := []api.Num{{}, num(false, 1, 0), num(true, 3, 7), num(false, 1, api.MaxExp), num(true, 1, -api.MaxExp), long(60000, 5), {Neg: true, Mag: []int{1, 0, 9}, Exp: -4}}
	for _, x := range list {
		for _, k := range []int{0, 1, -1, 30, -30, api.MaxExp, -api.MaxExp, api.MaxExp + 1, 2 * api.MaxExp, -2 * api.MaxExp, 2*api.MaxExp + 1, -2*api.MaxExp - 1, api.MaxExp - 7, api.MaxExp - 6, 1 << 62, math.MaxInt, math.MinInt, math.MaxInt - api.MaxExp, math.MinInt + api.MaxExp} {
			exp := new(big.Int).Add(big.NewInt(int64(x.Exp)), big.NewInt(int64(k)))
			want := api.Num{Neg: x.Neg, Mag: x.Mag, Exp: int(exp.Int64())}
			got, e := exact.Scale(x, k)
			switch fits := new(big.Int).Abs(exp).Cmp(big.NewInt(api.MaxExp)) <= 0; {
			case len(x.Mag) == 0:
				if e != api.OK || !isZero(got) {
					t.Errorf("Scale(0, %d): %v, %v", k, got, e)
				}
			case fits && (e != api.OK || !same(got, want)), !fits && (e != api.ErrLong || !isZero(got)):
				t.Errorf("Scale(%v, %d): %v, %v", x, k, got, e)
			}
		}
	}
}

// kept tells whether lists, spare room too, are as they were.
func kept(was, are [][]int) bool {
	return slices.EqualFunc(was, are, func(a, b []int) bool { return slices.Equal(a, b[:cap(b)]) })
}

func TestP208NothingIsChangedOrShared(t *testing.T) {
	room := []int{3, 5, 77, 78, 79}
	other := []int{digitTop, 9, 1, 66, 67}
	a, b := api.Num{Mag: room[:2], Exp: -1}, api.Num{Neg: true, Mag: other[:3], Exp: 4}
	was := [][]int{slices.Clone(room), slices.Clone(other)}
	for name, f := range map[string]func() (api.Num, api.Errno){
		"Make":  func() (api.Num, api.Errno) { return exact.Make(true, a.Mag, 3) },
		"Int":   func() (api.Num, api.Errno) { return exact.Int(77), api.OK },
		"Of":    func() (api.Num, api.Errno) { return exact.Of(5, 32) },
		"Neg":   func() (api.Num, api.Errno) { return exact.Neg(a) },
		"Add":   func() (api.Num, api.Errno) { return exact.Add(a, b) },
		"Add 0": func() (api.Num, api.Errno) { return exact.Add(a, api.Num{}) },
		"0 Add": func() (api.Num, api.Errno) { return exact.Add(api.Num{}, a) },
		"Sub":   func() (api.Num, api.Errno) { return exact.Sub(a, b) },
		"Sub 0": func() (api.Num, api.Errno) { return exact.Sub(a, api.Num{}) },
		"Mul":   func() (api.Num, api.Errno) { return exact.Mul(a, b) },
		"Mul 1": func() (api.Num, api.Errno) { return exact.Mul(a, num(false, 1, 0)) },
		"Scale": func() (api.Num, api.Errno) { return exact.Scale(a, 0) },
	} {
		first, e := f()
		copied := slices.Clone(first.Mag)
		for i := range first.Mag[:cap(first.Mag)] {
			first.Mag[:cap(first.Mag)][i] = -1
		}
		second, e2 := f()
		if e != api.OK || e2 != api.OK || !slices.Equal(copied, second.Mag) || !kept(was, [][]int{a.Mag, b.Mag}) {
			t.Errorf("%s: what is answered, or handed in, is shared or changed", name)
		}
	}
	for _, w := range widths {
		for _, way := range ways {
			exact.Round(a, w, way)
			exact.Quot(b, a, w, way)
			exact.Quot(a, b, w, way)
			exact.Root(a, w, way)
		}
	}
	exact.Cmp(a, b)
	exact.Sign(a)
	exact.Valid(a)
	if !kept(was, [][]int{a.Mag, b.Mag}) {
		t.Error("what is handed in is changed")
	}
}
