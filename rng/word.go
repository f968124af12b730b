package rng

import (
	"math"

	"pupil/api"
	"pupil/bits"
)

// What a stream, a place and a split's number are moved by ahead of being mixed.
const (
	streamStep = 0x632BE59BD9B4E019
	placeStep  = 0x9E3779B97F4A7C15
	splitStep  = 0xD1B54A32D192ED03
)

// mix scatters a word's bits. No two words become one, since both factors are odd.
func mix(z uint64) uint64 {
	z = (z ^ z>>30) * 0xBF58476D1CE4E5B9
	z = (z ^ z>>27) * 0x94D049BB133111EB
	return z ^ z>>31
}

// key tells what the words of a seed's stream have in common.
func key(d api.Draw) uint64 {
	return mix(uint64(d.Seed) ^ mix(uint64(d.Stream)+streamStep))
}

// wordAt tells the word at a place of the row that has that key.
func wordAt(key uint64, at int) uint64 {
	return mix(key + (uint64(at)+1)*placeStep)
}

// evenWord takes words until one is below the greatest multiple of n that there is room for, so that each number below n stands for as many words.
// It ends: the places go round through all words, each once.
func evenWord(d api.Draw, n uint64) (uint64, api.Draw) {
	rest := -n % n // 2^64 modulo n, in words that go round
	last := math.MaxUint64 - rest
	for {
		word, next := Next(d)
		if uint64(word) <= last {
			return uint64(word), next
		}
		d = next
	}
}

// fraction tells the float that a word's upper bits make: as many as the width's floats have, so that nothing is rounded.
func fraction(word uint64, w int) int {
	if w == 32 {
		return bits.Of32(float32(word>>40) * 0x1p-24)
	}
	return bits.Of(float64(word>>11) * 0x1p-53)
}

// order tells the numbers below n, each exchanged with one at or ahead of it, from the last one down to the second.
func order(d api.Draw, n int) ([]int, api.Draw) {
	list := make([]int, n)
	for i := range n {
		list[i] = i
	}
	for behind := range n - 1 {
		i := n - 1 - behind
		j, next, _ := Below(d, i+1)
		list[i], list[j] = list[j], list[i]
		d = next
	}
	return list, d
}
