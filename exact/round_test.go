package exact_test

import (
	"math/big"
	"math/rand"
	"testing"

	"pupil/api"
	"pupil/exact"
)

// heldRound holds an answer of a call that rounds against P206's words.
func heldRound(t *testing.T, name string, x against, w, way, got int, other bool, e api.Errno) {
	t.Helper()
	if e != api.OK || !rightly(x, got, w, way) {
		t.Errorf("%s, width %d, way %d: %#x, %v, %v", name, w, way, got, other, e)
	} else if want := orderTo(x, got, w) != 0; other != want {
		t.Errorf("%s, width %d, way %d: %#x, and as to its being another: %v", name, w, way, got, other)
	}
}

// everyRound holds Round of a number, and of that below 0, in all widths and ways.
func everyRound(t *testing.T, x api.Num) {
	t.Helper()
	for _, neg := range []bool{false, true} {
		y := api.Num{Neg: neg && len(x.Mag) > 0, Mag: x.Mag, Exp: x.Exp}
		for _, w := range widths {
			for _, way := range ways {
				got, other, e := exact.Round(y, w, way)
				heldRound(t, "Round", asNumber(rat(y)), w, way, got, other, e)
			}
		}
	}
}

// around are a number, and those a little above and below it.
func around(x *big.Rat) []*big.Rat {
	list := []*big.Rat{x}
	for _, k := range []int{-1200, -1500, -2500} {
		list = append(list, new(big.Rat).Add(x, power(k)), new(big.Rat).Sub(x, power(k)))
	}
	return list
}

// places are floats' values, the middles between floats, and what is near them.
func places(w int) []*big.Rat {
	var list []*big.Rat
	for _, b := range edges(w) {
		list = append(list, around(value(b, w))...)
		list = append(list, around(middle(b, beside(b, w, true), w))...)
	}
	return list
}

func TestP206Round(t *testing.T) {
	for _, w := range widths {
		for _, x := range places(w) {
			if x.Sign() >= 0 {
				everyRound(t, ratNum(x))
			}
		}
	}
	r := rand.New(rand.NewSource(208))
	for i := range 1500 {
		x := some(r, 1+i%8, []int{30, 160, 1100}[i%3])
		x.Neg = false
		everyRound(t, x)
	}
	everyRound(t, api.Num{})
	everyRound(t, api.Num{Mag: []int{}})
}

func TestP206BeyondTheEnds(t *testing.T) {
	for _, k := range []int{-1077, -1076, -1075, -1074, -1073, -152, -151, -150, -149, 127, 128, 129, 1023, 1024, 1025, 1083, 1084, 1085, 1999, 2000, 2001, 2060} {
		for _, x := range around(power(k)) {
			if x.Sign() > 0 {
				everyRound(t, ratNum(x))
			}
		}
	}
	for _, x := range []api.Num{num(false, 1, api.MaxExp), num(false, 1, -api.MaxExp), num(false, 3, -api.MaxExp), long(60000, api.MaxExp), long(60000, -api.MaxExp), long(60000, -30000), long(60000, -61000), long(60000, -61074), long(60000, -61075), long(60000, -61076), long(60000, -58976), long(60000, -58977)} {
		everyRound(t, x)
	}
}

func TestP206Told(t *testing.T) {
	const minus = -1 << 63
	for i, x := range []struct {
		x         api.Num
		w, way, b int
	}{
		{num(false, 1, 1024), 64, exact.Near, api.Inf}, {num(false, 1, 1024), 64, exact.Up, api.Inf}, {num(false, 1, 1024), 64, exact.Down, api.Inf - 1},
		{num(true, 1, 1024), 64, exact.Near, minus | api.Inf}, {num(true, 1, 1024), 64, exact.Up, minus | api.Inf - 1}, {num(true, 1, 1024), 64, exact.Down, minus | api.Inf},
		{num(false, 1, api.MaxExp), 32, exact.Near, api.Inf32}, {num(false, 1, api.MaxExp), 32, exact.Up, api.Inf32}, {num(false, 1, api.MaxExp), 32, exact.Down, api.Inf32 - 1},
		{num(true, 1, 128), 32, exact.Near, 0xFF800000}, {num(true, 1, 128), 32, exact.Up, 0xFF7FFFFF}, {num(true, 1, 128), 32, exact.Down, 0xFF800000},
		{num(false, 1<<25-1, 103), 32, exact.Near, api.Inf32}, {num(false, 1<<25-1, 103), 32, exact.Down, api.Inf32 - 1}, {num(true, 1<<25-1, 103), 32, exact.Up, 0xFF7FFFFF}, {num(false, 1<<26-3, 102), 32, exact.Near, api.Inf32 - 1},
		{num(false, 1, -150), 32, exact.Near, 0}, {num(false, 3, -151), 32, exact.Near, 1}, {num(true, 1, -150), 32, exact.Near, 0}, {num(true, 1, -150), 32, exact.Up, 0}, {num(true, 1, -150), 32, exact.Down, 1<<31 + 1}, {num(false, 1, -150), 32, exact.Up, 1}, {num(false, 3, -150), 32, exact.Near, 2},
		{num(false, 1, -api.MaxExp), 64, exact.Up, 1}, {num(false, 1, -api.MaxExp), 64, exact.Down, 0}, {num(true, 1, -api.MaxExp), 64, exact.Down, minus + 1}, {num(true, 1, -api.MaxExp), 64, exact.Up, 0},
	} {
		if got, other, e := exact.Round(x.x, x.w, x.way); got != x.b || !other || e != api.OK {
			t.Errorf("%d: %#x, %v, %v, want %#x", i, got, other, e, x.b)
		}
	}
}

// everyQuot holds Quot of two numbers, with all signs.
func everyQuot(t *testing.T, a, b api.Num) {
	t.Helper()
	for i := range 4 {
		x, y := api.Num{Neg: i&1 == 1 && len(a.Mag) > 0, Mag: a.Mag, Exp: a.Exp}, api.Num{Neg: i&2 == 2, Mag: b.Mag, Exp: b.Exp}
		want := asNumber(new(big.Rat).Quo(rat(x), rat(y)))
		for _, w := range widths {
			for _, way := range ways {
				got, other, e := exact.Quot(x, y, w, way)
				heldRound(t, "Quot", want, w, way, got, other, e)
			}
		}
	}
}

func TestP207Quot(t *testing.T) {
	r := rand.New(rand.NewSource(209))
	for i := range 1200 {
		reach := []int{20, 100, 700}[i%3]
		everyQuot(t, some(r, 1+i%6, reach), some(r, 1+i/6%6, reach))
	}
	for _, x := range []api.Num{num(false, 1, 0), num(true, 3, -5), long(90, 7)} {
		everyQuot(t, api.Num{}, x)
		everyQuot(t, x, x)
	}
}

func TestP207QuotAtFloatsAndMiddles(t *testing.T) {
	r := rand.New(rand.NewSource(210))
	for _, w := range widths {
		for _, f := range edges(w) {
			for _, x := range []*big.Rat{value(f, w), middle(f, beside(f, w, true), w)} {
				b := some(r, 4, 40)
				product := new(big.Rat).Mul(x, rat(b))
				near := new(big.Rat).Mul(power(-1300), rat(b))
				everyQuot(t, ratNum(product), b)
				everyQuot(t, ratNum(new(big.Rat).Add(product, near)), b)
				if x.Sign() > 0 {
					everyQuot(t, ratNum(new(big.Rat).Sub(product, near)), b)
				}
			}
		}
	}
}

func TestP207QuotOfLongOnes(t *testing.T) {
	r := rand.New(rand.NewSource(211))
	for range 4 {
		a, b := some(r, api.MaxDigits, 1000), some(r, api.MaxDigits, 1000)
		everyQuot(t, a, b)
		everyQuot(t, a, num(false, 3, 60000))
		everyQuot(t, num(false, 3, 60000), b)
	}
	everyQuot(t, long(60000, 0), long(60000, 0))
	everyQuot(t, long(60000, 0), long(59999, 1))
	everyQuot(t, long(60000, 0), long(30000, 30000))
	everyQuot(t, num(false, 1, api.MaxExp), num(false, 3, -api.MaxExp))
	everyQuot(t, num(false, 1, -api.MaxExp), num(false, 3, api.MaxExp))
	everyQuot(t, num(false, 1, api.MaxExp), num(false, 3, api.MaxExp))
}

func TestP207QuotByZero(t *testing.T) {
	for _, a := range []api.Num{{}, num(false, 1, 0), num(true, 1, 0)} {
		for _, w := range widths {
			for _, way := range ways {
				if got, other, e := exact.Quot(a, api.Num{}, w, way); e != api.ErrDivide || got != 0 || other {
					t.Errorf("%v by 0: %#x, %v, %v", a, got, other, e)
				}
			}
		}
	}
}

// everyRoot holds Root of a number.
func everyRoot(t *testing.T, x api.Num) {
	t.Helper()
	for _, w := range widths {
		for _, way := range ways {
			got, other, e := exact.Root(x, w, way)
			heldRound(t, "Root", asRoot(rat(x)), w, way, got, other, e)
		}
	}
}

func TestP207Root(t *testing.T) {
	r := rand.New(rand.NewSource(212))
	for i := range 3000 {
		x := some(r, 1+i%9, []int{3, 40, 300, 2300}[i%4])
		x.Neg = false
		everyRoot(t, x)
	}
	for n := range 200 {
		for _, exp := range []int{-3, -2, -1, 0, 1} {
			x, _ := exact.Make(false, []int{n}, exp)
			everyRoot(t, x)
		}
	}
}

func TestP207RootAtFloatsAndMiddles(t *testing.T) {
	for _, w := range widths {
		for _, f := range edges(w) {
			for _, x := range []*big.Rat{value(f, w), middle(f, beside(f, w, true), w)} {
				square := new(big.Rat).Mul(x, x)
				everyRoot(t, ratNum(square))
				everyRoot(t, ratNum(new(big.Rat).Add(square, power(-4000))))
				everyRoot(t, ratNum(new(big.Rat).Add(square, power(-4001))))
				if x.Sign() > 0 {
					everyRoot(t, ratNum(new(big.Rat).Sub(square, power(-4000))))
				}
			}
		}
	}
	for _, x := range []api.Num{num(false, 1, api.MaxExp), num(false, 1, api.MaxExp-1), num(false, 1, -api.MaxExp), num(false, 1, 1-api.MaxExp), num(false, 1, 2047), num(false, 1, 2048), num(false, 1, 255), num(false, 1, 256), num(false, 1, -2150), num(false, 1, -2149), long(60000, 0), long(60000, -59999), long(59999, api.MaxExp), long(60000, -api.MaxExp)} {
		everyRoot(t, x)
	}
}

func TestP207RootBelowZero(t *testing.T) {
	for _, x := range []api.Num{num(true, 1, 0), num(true, 1, -api.MaxExp), {Neg: true, Mag: long(60000, 0).Mag}} {
		for _, w := range widths {
			for _, way := range ways {
				if got, other, e := exact.Root(x, w, way); e != api.ErrNegative || got != 0 || other {
					t.Errorf("the root of %v: %#x, %v, %v", x, got, other, e)
				}
			}
		}
	}
}

// everyRootQuot holds RootQuot of two numbers, both above 0 or both below.
func everyRootQuot(t *testing.T, a, b api.Num) {
	t.Helper()
	for _, neg := range []bool{false, true} {
		x, y := api.Num{Neg: neg && len(a.Mag) > 0, Mag: a.Mag, Exp: a.Exp}, api.Num{Neg: neg, Mag: b.Mag, Exp: b.Exp}
		want := asRoot(new(big.Rat).Quo(rat(x), rat(y)))
		for _, w := range widths {
			for _, way := range ways {
				got, other, e := exact.RootQuot(x, y, w, way)
				heldRound(t, "RootQuot", want, w, way, got, other, e)
			}
		}
	}
}

// TestRootQuot: what the layers below have beside P207's calls.
func TestRootQuot(t *testing.T) {
	r := rand.New(rand.NewSource(213))
	for i := range 1200 {
		reach := []int{3, 40, 300, 1500}[i%4]
		everyRootQuot(t, some(r, 1+i%6, reach), some(r, 1+i/6%6, reach))
	}
	for n := range 40 {
		for d := range 40 {
			everyRootQuot(t, exact.Int(n), exact.Int(d+1))
		}
	}
	everyRootQuot(t, long(60000, 0), long(59999, 1))
	everyRootQuot(t, some(r, api.MaxDigits, 1000), some(r, api.MaxDigits, 1000))
	for _, exps := range [][2]int{{api.MaxExp, -api.MaxExp}, {-api.MaxExp, api.MaxExp}, {api.MaxExp, api.MaxExp}, {api.MaxExp, -api.MaxExp + 1}, {-api.MaxExp, api.MaxExp - 1}} {
		everyRootQuot(t, num(false, 1, exps[0]), num(false, 3, exps[1]))
	}
}

func TestRootQuotAtFloatsAndMiddles(t *testing.T) {
	r := rand.New(rand.NewSource(214))
	for _, w := range widths {
		for _, f := range edges(w) {
			for _, x := range []*big.Rat{value(f, w), middle(f, beside(f, w, true), w)} {
				b := some(r, 3, 40)
				b.Neg = false
				product := new(big.Rat).Mul(new(big.Rat).Mul(x, x), rat(b))
				near := new(big.Rat).Mul(power(-4001), rat(b))
				everyRootQuot(t, ratNum(product), b)
				everyRootQuot(t, ratNum(new(big.Rat).Add(product, near)), b)
				if x.Sign() > 0 {
					everyRootQuot(t, ratNum(new(big.Rat).Sub(product, near)), b)
				}
			}
		}
	}
}

// TestRootQuotRefused: the errors of both calls, in the order of P202.
func TestRootQuotRefused(t *testing.T) {
	one, none := num(false, 1, 0), num(false, 2, 0)
	for i, c := range []struct {
		a, b   api.Num
		w, way int
		want   api.Errno
	}{
		{none, api.Num{}, 16, 5, api.ErrWidth}, {none, api.Num{}, 32, 5, api.ErrArg}, {none, api.Num{}, 64, 0, api.ErrNum}, {one, none, 64, 0, api.ErrNum},
		{one, api.Num{}, 64, 0, api.ErrDivide}, {num(true, 1, 0), api.Num{}, 32, 1, api.ErrDivide}, {api.Num{}, api.Num{}, 32, 2, api.ErrDivide},
		{num(true, 1, 0), one, 64, 0, api.ErrNegative}, {one, num(true, 3, 9), 32, 1, api.ErrNegative}, {api.Num{}, num(true, 3, 9), 32, 1, api.OK},
	} {
		if got, other, e := exact.RootQuot(c.a, c.b, c.w, c.way); got != 0 || other || e != c.want {
			t.Errorf("%d: %#x, %v, %v, want %v", i, got, other, e, c.want)
		}
	}
}
