package rate

import (
	"math/bits"
	"sync"

	"pupil/api"
	"pupil/sure"
)

// kind tells the rate, k steps behind the warm-up, of a schedule that was checked.
type kind func(s api.Schedule, k int) int

// kindOf tells a kind; false: there is no such kind. All answers are worked out by it: it hangs on the number alone, not on what stands in a variable.
func kindOf(number int) (kind, bool) {
	told, ok := allKinds()[number]
	return told, ok
}

// table has the kinds by their numbers. It makes them when it is first asked.
type table struct {
	once sync.Once
	made map[int]kind
}

// kinds is the table that stands beside kindOf, and has what that tells. Check asks it, but no answer hangs on it, so that no call can tell which one was the first.
var kinds = table{}

// of tells a kind as the table has it.
func (t *table) of(number int) (kind, bool) {
	t.once.Do(func() { t.made = allKinds() })
	told, ok := t.made[number]
	return told, ok
}

// allKinds makes the kinds.
func allKinds() map[int]kind {
	return map[int]kind{
		api.RateConstant: constant,
		api.RateSteps:    steps,
		api.RateLinear:   linear,
		api.RateRoot:     root,
		api.RateTriangle: triangle,
		api.RatePower:    power,
	}
}

// All that is rounded is reckoned exactly ahead of it, and has an exact number: the longest is the greatest power of RateSteps, of 900 times 53 bits, with an exponent of at least 901 times -1074.

func constant(s api.Schedule, _ int) int { return sure.Round(sure.Of(s.Base, wide), wide) }

func steps(s api.Schedule, k int) int {
	const most = 900
	factor := raised(sure.Of(s.Factor, wide), min(k/s.Every, most))
	return sure.Round(sure.Mul(sure.Of(s.Base, wide), factor), wide)
}

func linear(s api.Schedule, k int) int { return fading(s, k, 1) }

func power(s api.Schedule, k int) int { return fading(s, k, s.Every) }

// fading tells the base times a power of the part of Total that is left.
func fading(s api.Schedule, k, times int) int {
	left, total := sure.Int(max(0, s.Total-k)), sure.Int(s.Total)
	return share(s.Base, raised(left, times), raised(total, times))
}

// root has the base under the root, squared, so that one rounding is left.
func root(s api.Schedule, k int) int {
	base := sure.Of(s.Base, wide)
	square := sure.Mul(base, base)
	return sure.RootQuot(sure.Mul(square, sure.Int(s.Every)), sure.Int(s.Every+k), wide)
}

// triangle has one quotient, of B (Every - q) + F q by Every.
func triangle(s api.Schedule, k int) int {
	p := k % (2 * s.Every)
	q := min(p, 2*s.Every-p)
	from := sure.Mul(sure.Of(s.Base, wide), sure.Int(s.Every-q))
	to := sure.Mul(sure.Of(s.Factor, wide), sure.Int(q))
	return sure.Quot(sure.Add(from, to), sure.Int(s.Every), wide)
}

// share tells a float's product with the quotient of two numbers, rounded once.
func share(b int, part, whole api.Num) int {
	return sure.Quot(sure.Mul(sure.Of(b, wide), part), whole, wide)
}

// raised tells a power. Each bit of its exponent, from the top one on, squares what there is: the greatest powers are asked for at every step of a long training.
func raised(x api.Num, times int) api.Num {
	p, long := sure.Int(1), bits.Len(uint(times))
	for i := range long {
		p = sure.Mul(p, p)
		if times>>(long-1-i)&1 == 1 {
			p = sure.Mul(p, x)
		}
	}
	return p
}
