package rng_test

import (
	"math"
	"math/big"
	"math/rand"
	"slices"
	"sync"
	"testing"

	"pupil/api"
	"pupil/rng"
)

// plain tells a draw whose key is 0: its seed is what its stream is mixed to, and 0 is mixed to 0.
func plain() api.Draw {
	return api.Draw{Seed: signed(mixOf(hex("632BE59BD9B4E019")))}
}

// TestP601Mix: with the key 0 the words are the mixed multiples of the stride, a row that is known.
func TestP601Mix(t *testing.T) {
	for i, want := range []uint64{0xE220A8397B1DCDAF, 0x6E789E6AA1B965F4, 0x06C45D188009454F, 0xF88BB8A8724C81EC, 0x1B39896A51A8749B} {
		if got := uint64(rng.Word(plain(), i)); got != want {
			t.Errorf("word %d is %#x, want %#x", i, got, want)
		}
	}
	if got := rng.Word(plain(), -1); got != 0 {
		t.Errorf("0 is mixed to %#x", got)
	}
}

// TestP601Single: words of one bit show every shift and both factors.
func TestP601Single(t *testing.T) {
	for bit := range 64 {
		z := new(big.Int).Lsh(big.NewInt(1), uint(bit))
		d := plain()
		d.At = signed(times(z, inverse(stride)))
		if got, want := rng.Word(d, -1), signed(mixOf(z)); got != want {
			t.Errorf("2^%d is mixed to %#x, want %#x", bit, uint(got), uint(want))
		}
	}
}

func TestP602Word(t *testing.T) {
	for _, d := range draws() {
		for _, i := range edges {
			if got, want := rng.Word(d, i), signed(wordOf(d, i)); got != want {
				t.Errorf("Word(%v, %d) is %#x, want %#x", d, i, uint(got), uint(want))
			}
		}
	}
}

// TestP602Round: a place and a distance whose sum goes round.
func TestP602Round(t *testing.T) {
	for _, x := range []struct{ at, i, to int }{
		{math.MaxInt, 1, math.MinInt}, {math.MaxInt, math.MaxInt, -2}, {math.MinInt, -1, math.MaxInt}, {math.MinInt, math.MinInt, 0}, {math.MaxInt, math.MinInt, -1}, {3, -3, 0}, {-1, 0, -1},
	} {
		d, to := api.Draw{Seed: -7, Stream: 1 << 40, At: x.at}, api.Draw{Seed: -7, Stream: 1 << 40, At: x.to}
		if rng.Word(d, x.i) != rng.Word(to, 0) {
			t.Errorf("the word %d on from %d is not that at %d", x.i, x.at, x.to)
		}
	}
}

func TestP602Next(t *testing.T) {
	for _, d := range draws() {
		got, next := rng.Next(d)
		if got != signed(wordOf(d, 0)) || next != behind(d, 1) {
			t.Errorf("Next(%v): %#x, %v", d, uint(got), next)
		}
	}
	if _, next := rng.Next(api.Draw{Seed: 1, Stream: 2, At: math.MaxInt}); next != (api.Draw{Seed: 1, Stream: 2, At: math.MinInt}) {
		t.Errorf("behind the greatest place: %v", next)
	}
}

func TestP603Split(t *testing.T) {
	for _, d := range draws() {
		for _, k := range append(edges, -0x2E4AB5CD2E6D12FD, 0x2E4AB5CD2E6D12FD) {
			stream := mixOf(either(keyOf(d), mixOf(plus(unsigned(k), hex("D1B54A32D192ED03")))))
			want := api.Draw{Seed: d.Seed, Stream: signed(stream)}
			if got := rng.Split(d, k); got != want {
				t.Errorf("Split(%v, %d) is %v, want %v", d, k, got, want)
			}
			if got := rng.Split(behind(d, 99), k); got != want {
				t.Errorf("Split(%v, %d) from another place is %v, want %v", d, k, got, want)
			}
		}
	}
}

// bounds tells numbers to be below: about 1, about powers of two, at the greatest int, and where many words are passed over.
func bounds() []int {
	list := []int{1, 2, 3, 10, 1000, 65536, 65537, math.MaxInt, math.MaxInt - 1, 0x5555555555555555, 0x5555555555555556, 0x3333333333333334, 1<<62 + 1}
	for i := range 63 {
		list = append(list, 1<<i, 1<<i|1)
	}
	return list
}

func TestP604Below(t *testing.T) {
	for _, d := range draws() {
		for _, n := range bounds() {
			want, on := belowOf(d, n)
			if got, next, e := rng.Below(d, n); got != want || next != on || e != api.OK {
				t.Errorf("Below(%v, %d): %d, %v, %v; want %d, %v", d, n, got, next, e, want, on)
			}
		}
	}
}

// TestP604Passed: the greatest word that is taken, the least that is passed over, and those at the ends.
func TestP604Passed(t *testing.T) {
	passed := 0
	for _, n := range bounds() {
		m := big.NewInt(int64(n))
		rest := new(big.Int).Mod(words, m).Uint64()
		for _, word := range []uint64{0, uint64(n) - 1, uint64(n), -rest - 1, -rest, -rest + 1, math.MaxUint64} {
			for _, stream := range []int{0, -9} {
				d := placed(5, stream, word)
				if got := uint64(rng.Word(d, 0)); got != word {
					t.Fatalf("the word at %v is %#x, want %#x", d, got, word)
				}
				want, on := belowOf(d, n)
				if on != behind(d, 1) {
					passed++
				}
				got, next, e := rng.Below(d, n)
				if got != want || next != on || e != api.OK {
					t.Errorf("Below %d at the word %#x: %d, %v, %v; want %d, %v", n, word, got, next, e, want, on)
				}
				if taken := rest == 0 || word < -rest; taken != (next == behind(d, 1)) {
					t.Errorf("Below %d at the word %#x: from %v to %v", n, word, d, next)
				}
			}
		}
	}
	if passed < 50 {
		t.Errorf("only %d words were passed over", passed)
	}
}

// TestP604Many: several words in a row are passed over, across the greatest place too.
func TestP604Many(t *testing.T) {
	const n = 0x5555555555555556 // of three words one is passed over
	longest, round := 0, 0
	for seed := range 4000 {
		for _, at := range []int{0, math.MaxInt} {
			d := api.Draw{Seed: seed, At: at}
			want, on := belowOf(d, n)
			got, next, e := rng.Below(d, n)
			if got != want || next != on || e != api.OK {
				t.Fatalf("Below(%v): %d, %v, %v; want %d, %v", d, got, next, e, want, on)
			}
			longest = max(longest, next.At-d.At)
			if next.At > math.MinInt+1 && next.At < 0 {
				round++
			}
		}
	}
	if longest < 5 || round < 5 {
		t.Errorf("at most %d words were taken, %d times beyond the greatest place", longest, round)
	}
}

func TestP604Refused(t *testing.T) {
	for _, d := range draws() {
		for _, n := range []int{0, -1, -2, math.MinInt, math.MinInt + 1, -65536} {
			v, next, e := rng.Below(d, n)
			refused(t, zeros(v), next, e, api.ErrArg, "Below", d, n)
		}
	}
}

// uniformOf tells the float that a word's upper bits are, by the value of its bits.
func uniformOf(t *testing.T, b, w int) *big.Rat {
	if w == 32 {
		if b < 0 || b > math.MaxUint32 {
			t.Errorf("%#x is no pattern of 32 bits", b)
		}
		return new(big.Rat).SetFloat64(float64(math.Float32frombits(uint32(b))))
	}
	return new(big.Rat).SetFloat64(math.Float64frombits(uint64(b)))
}

func TestP605Uniform(t *testing.T) {
	list := []uint64{0, 1, math.MaxUint64, math.MaxUint64 - 1, 1 << 63, 1<<63 - 1, 1<<63 + 1}
	for i := range 64 {
		list = append(list, 1<<i, 1<<i-1, -(1 << i), -(1<<i)-1)
	}
	r := rand.New(rand.NewSource(605))
	for range 500 {
		list = append(list, r.Uint64())
	}
	for _, word := range list {
		for _, x := range []struct{ w, kept uint }{{32, 24}, {64, 53}} {
			d := placed(int(word%5)-2, 77, word)
			got, next, e := rng.Uniform(d, int(x.w))
			whole := new(big.Int).Rsh(new(big.Int).SetUint64(word), 64-x.kept)
			want := new(big.Rat).SetFrac(whole, new(big.Int).Lsh(big.NewInt(1), x.kept))
			value := uniformOf(t, got, int(x.w))
			if value == nil || value.Cmp(want) != 0 || next != behind(d, 1) || e != api.OK {
				t.Errorf("Uniform of width %d at the word %#x: %#x, %v, %v; want %v", x.w, word, got, next, e, want)
			}
			if whole.Sign() == 0 && got != 0 {
				t.Errorf("Uniform of width %d at the word %#x is %#x, no plain 0", x.w, word, got)
			}
		}
	}
}

// TestP605Ends: the least and the greatest words, by their bits.
func TestP605Ends(t *testing.T) {
	for _, x := range []struct {
		word    uint64
		w, bits int
	}{
		{0, 64, 0}, {1<<11 - 1, 64, 0}, {1 << 11, 64, 0x3CA0000000000000}, {1 << 63, 64, 0x3FE0000000000000}, {math.MaxUint64, 64, 0x3FEFFFFFFFFFFFFF},
		{0, 32, 0}, {1<<40 - 1, 32, 0}, {1 << 40, 32, 0x33800000}, {1 << 63, 32, 0x3F000000}, {math.MaxUint64, 32, 0x3F7FFFFF},
	} {
		if got, _, e := rng.Uniform(placed(-3, 4, x.word), x.w); got != x.bits || e != api.OK {
			t.Errorf("Uniform of width %d at the word %#x: %#x, %v; want %#x", x.w, x.word, got, e, x.bits)
		}
	}
}

func TestP605Refused(t *testing.T) {
	for _, d := range draws() {
		for _, w := range noWidths {
			v, next, e := rng.Uniform(d, w)
			refused(t, zeros(v), next, e, api.ErrWidth, "Uniform", d, w)
		}
	}
}

// shuffles holds a shuffle against the reference, and tells it.
func shuffles(t *testing.T, d api.Draw, n int) []int {
	t.Helper()
	want, on := shuffleOf(d, n)
	got, next, e := rng.Shuffle(d, n)
	if !slices.Equal(got, want) || next != on || e != api.OK {
		t.Errorf("Shuffle(%v, %d): %v, %v; want up to %v", d, n, next, e, on)
	}
	return got
}

func TestP606Shuffle(t *testing.T) {
	for _, d := range draws() {
		for n := range 12 {
			shuffles(t, d, n)
		}
	}
	for _, n := range []int{100, 1000, api.MaxList - 1, api.MaxList} {
		shuffles(t, api.Draw{Seed: n, Stream: -n, At: math.MaxInt - 50}, n)
	}
}

// TestP606Passed: a shuffle whose words are passed over at its first, second and third thing.
func TestP606Passed(t *testing.T) {
	for back := range 3 {
		d := behind(placed(1, 2, math.MaxUint64), -back)
		for _, n := range []int{3 + back, 5 + back, 6 + back, 7 + back} {
			_, next, _ := rng.Shuffle(d, n)
			if shuffles(t, d, n); next != behind(d, n) {
				t.Errorf("Shuffle(%v, %d) went on to %v: no word was passed over", d, n, next)
			}
		}
	}
}

func TestP606Pick(t *testing.T) {
	try := func(d api.Draw, n, k int) {
		t.Helper()
		want, on := pickOf(d, n, k)
		got, next, e := rng.Pick(d, n, k)
		if !slices.Equal(got, want) || next != on || e != api.OK {
			t.Errorf("Pick(%v, %d, %d): %v, %v, %v; want %v, %v", d, n, k, got, next, e, want, on)
		}
	}
	for _, d := range draws() {
		for n := range 8 {
			for k := range n + 1 {
				try(d, n, k)
			}
		}
		try(d, 50, 20)
	}
	try(placed(1, 2, math.MaxUint64), 3, 2)
	for _, k := range []int{0, 1, 1000, api.MaxList - 1, api.MaxList} {
		try(api.Draw{Seed: 6, Stream: k, At: -9}, api.MaxList, k)
	}
}

// TestP606PickOfNone: none, but the draw stands behind the whole shuffle.
func TestP606PickOfNone(t *testing.T) {
	d := api.Draw{Seed: 8, Stream: 9, At: 10}
	for _, n := range []int{0, 1, 2, 7, 300} {
		_, on, _ := rng.Shuffle(d, n)
		if got, next, e := rng.Pick(d, n, 0); len(got) != 0 || next != on || e != api.OK {
			t.Errorf("Pick(%d, 0): %v, %v, %v; want %v", n, got, next, e, on)
		}
	}
}

// TestP606Refused: what can't be ahead of what is too long.
func TestP606Refused(t *testing.T) {
	for _, d := range draws() {
		for _, x := range []struct {
			n int
			e api.Errno
		}{{-1, api.ErrArg}, {-65537, api.ErrArg}, {math.MinInt, api.ErrArg}, {api.MaxList + 1, api.ErrLong}, {1 << 32, api.ErrLong}, {math.MaxInt, api.ErrLong}} {
			list, next, e := rng.Shuffle(d, x.n)
			refused(t, list, next, e, x.e, "Shuffle", d, x.n)
		}
		for _, x := range []struct {
			n, k int
			e    api.Errno
		}{
			{-1, 0, api.ErrArg}, {-1, -1, api.ErrArg}, {-1, -2, api.ErrArg}, {math.MinInt, 0, api.ErrArg}, {math.MinInt, math.MinInt, api.ErrArg},
			{0, -1, api.ErrArg}, {5, -1, api.ErrArg}, {5, math.MinInt, api.ErrArg}, {0, 1, api.ErrArg}, {5, 6, api.ErrArg}, {5, math.MaxInt, api.ErrArg},
			{api.MaxList, api.MaxList + 1, api.ErrArg}, {api.MaxList + 1, api.MaxList + 2, api.ErrArg}, {api.MaxList + 1, -1, api.ErrArg}, {math.MaxInt, -1, api.ErrArg},
			{api.MaxList + 1, 0, api.ErrLong}, {api.MaxList + 1, 1, api.ErrLong}, {api.MaxList + 1, api.MaxList + 1, api.ErrLong}, {math.MaxInt, math.MaxInt, api.ErrLong},
		} {
			list, next, e := rng.Pick(d, x.n, x.k)
			refused(t, list, next, e, x.e, "Pick", d, x.n, x.k)
		}
	}
}

func TestP607Next(t *testing.T) {
	for _, d := range draws() {
		on := d
		for i := 1; i <= 60; i++ {
			var word int
			if word, on = rng.Next(on); word != rng.Word(d, i-1) {
				t.Errorf("Next taken %d times from %v tells %#x, not %#x", i, d, uint(word), uint(rng.Word(d, i-1)))
			}
		}
	}
}

func TestP607Shuffle(t *testing.T) {
	for _, n := range []int{0, 1, 2, 3, 17, 256, 9999, api.MaxList} {
		list, _, e := rng.Shuffle(api.Draw{Seed: -1, Stream: n, At: 1 << 50}, n)
		seen := make([]int, n)
		for _, x := range list {
			if x < 0 || x >= n || seen[x] != 0 {
				t.Fatalf("of %d things %d stands once more, or is none", n, x)
			}
			seen[x]++
		}
		if len(list) != n || e != api.OK {
			t.Errorf("of %d things there are %d, %v", n, len(list), e)
		}
	}
}

// TestP608Memory: an answer that is written over, and its spare room, turns no other.
func TestP608Memory(t *testing.T) {
	d := api.Draw{Seed: 60, Stream: 8, At: -1}
	for _, n := range []int{1, 2, 10, 500} {
		for name, call := range map[string]func() ([]int, api.Draw, api.Errno){
			"Shuffle": func() ([]int, api.Draw, api.Errno) { return rng.Shuffle(d, n) },
			"Pick":    func() ([]int, api.Draw, api.Errno) { return rng.Pick(d, n, (n+1)/2) },
		} {
			one, _, _ := call()
			other, _, _ := call()
			kept := slices.Clone(other)
			for i := range one[:cap(one)] {
				one[:cap(one)][i] = -5
			}
			again, _, _ := call()
			if !slices.Equal(other, kept) || !slices.Equal(again, kept) {
				t.Errorf("%s of %d: an answer that was written over turned another", name, n)
			}
		}
	}
}

// TestP608Arguments: many at once and in any order, each call tells what it tells alone.
func TestP608Arguments(t *testing.T) {
	list := draws()
	type told struct {
		word, below, uniform, first int
		split, on                   api.Draw
	}
	tell := func(d api.Draw) told {
		var x told
		x.word, _ = rng.Next(d)
		x.below, _, _ = rng.Below(d, 1<<62+1)
		x.uniform, _, _ = rng.Uniform(d, 64)
		x.split = rng.Split(d, d.At)
		order, on, _ := rng.Shuffle(d, 30)
		x.first, x.on = order[0], on
		return x
	}
	alone := make([]told, len(list))
	for i, d := range list {
		alone[i] = tell(d)
	}
	var all sync.WaitGroup
	for worker := range 8 {
		all.Go(func() {
			for step := range list {
				i := (step*7 + worker*31) % len(list)
				if tell(list[i]) != alone[i] {
					t.Errorf("worker %d: the draw %v tells otherwise", worker, list[i])
				}
			}
		})
	}
	all.Wait()
}
