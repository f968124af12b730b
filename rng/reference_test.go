package rng_test

import (
	"math"
	"math/big"
	"math/rand"
	"slices"
	"testing"

	"pupil/api"
)

// The reference reckons the chapter's words in whole numbers of any size, each step taken modulo 2^64 by itself.

var words = new(big.Int).Lsh(big.NewInt(1), 64)

func modulo(x *big.Int) *big.Int { return new(big.Int).Mod(x, words) }

// hex tells the number that a text says.
func hex(s string) *big.Int {
	x, ok := new(big.Int).SetString(s, 16)
	if !ok {
		panic(s)
	}
	return x
}

// unsigned tells an int's 64 bits as a whole number, signed the int that has a number's bits.
func unsigned(n int) *big.Int { return modulo(big.NewInt(int64(n))) }

func signed(x *big.Int) int { return int(modulo(x).Uint64()) }

func plus(x, y *big.Int) *big.Int { return modulo(new(big.Int).Add(x, y)) }

func times(x, y *big.Int) *big.Int { return modulo(new(big.Int).Mul(x, y)) }

func either(x, y *big.Int) *big.Int { return new(big.Int).Xor(x, y) }

func folded(z *big.Int, shift uint) *big.Int { return either(z, new(big.Int).Rsh(z, shift)) }

var (
	first  = hex("BF58476D1CE4E5B9")
	second = hex("94D049BB133111EB")
	stride = hex("9E3779B97F4A7C15")
)

func mixOf(z *big.Int) *big.Int {
	z = times(folded(z, 30), first)
	z = times(folded(z, 27), second)
	return folded(z, 31)
}

func keyOf(d api.Draw) *big.Int {
	return mixOf(either(unsigned(d.Seed), mixOf(plus(unsigned(d.Stream), hex("632BE59BD9B4E019")))))
}

// wordOf is Word by the chapter's words, from 0 to 2^64 - 1.
func wordOf(d api.Draw, i int) *big.Int {
	place := plus(plus(unsigned(d.At), unsigned(i)), big.NewInt(1))
	return mixOf(plus(keyOf(d), times(place, stride)))
}

// behind tells the draw so many places on.
func behind(d api.Draw, i int) api.Draw {
	d.At = signed(plus(unsigned(d.At), unsigned(i)))
	return d
}

// belowOf is Below by the chapter's words.
func belowOf(d api.Draw, n int) (int, api.Draw) {
	m := big.NewInt(int64(n))
	limit := new(big.Int).Sub(words, new(big.Int).Mod(words, m))
	for {
		word := wordOf(d, 0)
		d = behind(d, 1)
		if word.Cmp(limit) < 0 {
			return int(new(big.Int).Mod(word, m).Int64()), d
		}
	}
}

// shuffleOf is Shuffle by the chapter's words.
func shuffleOf(d api.Draw, n int) ([]int, api.Draw) {
	var list []int
	for len(list) < n {
		list = append(list, len(list))
	}
	for i := n - 1; i >= 1; i-- {
		var j int
		j, d = belowOf(d, i+1)
		list[i], list[j] = list[j], list[i]
	}
	return list, d
}

// pickOf is Pick by the chapter's words.
func pickOf(d api.Draw, n, k int) ([]int, api.Draw) {
	list, d := shuffleOf(d, n)
	picked := slices.Clone(list[:k])
	slices.Sort(picked)
	return picked, d
}

// unfolded undoes folded.
func unfolded(z *big.Int, shift uint) *big.Int {
	x := z
	for range 64/shift + 1 {
		x = either(z, new(big.Int).Rsh(x, shift))
	}
	return x
}

func inverse(x *big.Int) *big.Int { return new(big.Int).ModInverse(x, words) }

// placed tells the draw of a seed and a stream at which that word is the next one.
func placed(seed, stream int, word uint64) api.Draw {
	z := unfolded(new(big.Int).SetUint64(word), 31)
	z = unfolded(times(z, inverse(second)), 27)
	z = unfolded(times(z, inverse(first)), 30)
	d := api.Draw{Seed: seed, Stream: stream}
	place := times(new(big.Int).Sub(z, keyOf(d)), inverse(stride))
	d.At = signed(new(big.Int).Sub(place, big.NewInt(1)))
	return d
}

// edges are ints at the ends, about 0 and about where bits change.
var edges = []int{0, 1, 2, -1, -2, 42, math.MaxInt, math.MaxInt - 1, math.MinInt, math.MinInt + 1, 1 << 31, 1<<32 - 1, -1 << 32, 1 << 62, -1 << 62, 0x632BE59BD9B4E019, -0x632BE59BD9B4E019}

var noWidths = []int{0, 1, 16, 31, 33, 63, 65, 128, -32, -64, math.MaxInt, math.MinInt, 1<<32 + 32, 1<<32 + 64}

// draws tells draws at all kinds of edges, and some at random.
func draws() []api.Draw {
	var list []api.Draw
	for i, e := range edges {
		list = append(list, api.Draw{Seed: e}, api.Draw{Stream: e}, api.Draw{At: e}, api.Draw{Seed: e, Stream: e, At: e})
		list = append(list, api.Draw{Seed: e, Stream: edges[(i+5)%len(edges)], At: edges[(i+9)%len(edges)]})
	}
	r := rand.New(rand.NewSource(601))
	for range 100 {
		list = append(list, api.Draw{Seed: int(r.Uint64()), Stream: int(r.Uint64()), At: int(r.Uint64())})
	}
	return list
}

// refused holds that a call told just this error, with all else zero.
func refused(t *testing.T, list []int, d api.Draw, e, want api.Errno, at ...any) {
	t.Helper()
	if e != want || len(list) != 0 || d != (api.Draw{}) {
		t.Errorf("%v: %v, %v, %v; want the error %v alone", at, list, d, e, want)
	}
}
