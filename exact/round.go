package exact

import (
	"cmp"
	mathbits "math/bits"

	"pupil/api"
	"pupil/bits"
)

// kind is what rounding asks of a width.
type kind struct {
	width     int
	precision int // bits of a normal float
	least     int // the exponent of the least float above 0
	infinity  int // infinity's pattern
}

// kindOf tells a width's kind; false: there is no such width.
func kindOf(w int) (kind, bool) {
	switch w {
	case 32:
		return kind{width: w, precision: 24, least: -149, infinity: api.Inf32}, true
	case 64:
		return kind{width: w, precision: 53, least: -1074, infinity: api.Inf}, true
	}
	return kind{}, false
}

// cut is what is left of a number behind the bits that a float keeps.
type cut struct {
	neg  bool // the number is below 0
	odd  bool // the last bit that is kept is 1
	half bool // the first one behind it is 1
	rest bool // one behind that is 1
}

// way is one way to round.
type way struct {
	away func(cut) bool // whether the float farther from 0 is taken
}

// ways is the table of them all.
func ways() [3]way {
	return [3]way{
		Near: {away: func(c cut) bool { return c.half && (c.rest || c.odd) }},
		Down: {away: func(c cut) bool { return c.neg && (c.half || c.rest) }},
		Up:   {away: func(c cut) bool { return !c.neg && (c.half || c.rest) }},
	}
}

// rounding is to what, and how, a number is rounded.
type rounding struct {
	kind
	way
}

// roundingOf tells the rounding of a width and a way, if the numbers that are given are numbers.
func roundingOf(w, which int, given ...api.Num) (rounding, api.Errno) {
	k, ok := kindOf(w)
	switch {
	case !ok:
		return rounding{}, api.ErrWidth
	case which < Near || which > Up:
		return rounding{}, api.ErrArg
	case !allValid(given...):
		return rounding{}, api.ErrNum
	}
	return rounding{k, ways()[which]}, api.OK
}

// lead is the leading bits of a number, head times 2^exp: at least one bit more than any float keeps. That of 0 is the zero lead.
type lead struct {
	neg  bool
	head int
	exp  int
	rest bool // there is more behind it
}

// round tells the float, and whether the number was another one.
func (r rounding) round(x lead) (int, bool) {
	if x.head == 0 {
		return 0, false
	}
	unit := max(x.exp+mathbits.Len(uint(x.head))-r.precision, r.least)
	kept, c := x.split(unit - x.exp)
	if r.away(c) {
		kept++
	}
	b, ok := bits.Join(x.neg && kept > 0, kept, unit, r.width)
	if !ok {
		return r.beyond(x.neg), true
	}
	return b, c.half || c.rest
}

// split takes the lowest bits, at least one, off the head.
func (x lead) split(low int) (int, cut) {
	kept, half := x.head>>low, 1<<(low-1)
	return kept, cut{neg: x.neg, odd: kept&1 == 1, half: x.head&half != 0, rest: x.rest || x.head&(half-1) != 0}
}

// beyond tells what stands for numbers greater than all floats, signs aside: infinity, where what is more than half way to the next float goes there.
func (r rounding) beyond(neg bool) int {
	b := r.infinity
	if !r.away(cut{neg: neg, half: true, rest: true}) {
		b = bits.Prev(b, r.width)
	}
	if neg {
		b = bits.Neg(b, r.width)
	}
	return b
}

// leading tells a number's lead, of two digits' bits. Its lowest bit is 1: if it is not among them, there is more.
func leading(x api.Num) lead {
	if len(x.Mag) == 0 {
		return lead{}
	}
	low := length(x.Mag) - 2*digitBits
	return lead{neg: x.Neg, head: piece(x.Mag, low+digitBits)<<digitBits | piece(x.Mag, low), exp: x.Exp + low, rest: low > 0}
}

// quotient tells the lead of a by b, of two digits' bits and a bit.
func quotient(a, b api.Num) lead {
	if len(a.Mag) == 0 {
		return lead{}
	}
	digits, exp, rest := divided(a, b, 2)
	head := 0
	for i := range len(digits) {
		head = head<<digitBits | digits[len(digits)-1-i]
	}
	return lead{neg: a.Neg != b.Neg, head: head, exp: exp, rest: rest}
}

// divided tells, signs aside, the first digits of a by b, count of them and a bit above these, times 2^exp, and whether there is more behind them; a is not 0. Here b is laid out with its topmost bit on top of a digit, and a so that so many come out.
func divided(a, b api.Num, count int) (digits []int, exp int, rest bool) {
	n, long := len(b.Mag), length(b.Mag)
	divisor := pieces(b.Mag, n, long-n*digitBits)
	low := length(a.Mag) - (n+count)*digitBits
	left := append(pieces(a.Mag, n+count, low), 0)
	digits = make([]int, count+1)
	for i := range len(digits) {
		digits[count-i] = take(left[count-i:count-i+n+1], divisor)
	}
	rest = low > 0
	for i := range n {
		rest = rest || left[i] != 0
	}
	return digits, a.Exp - b.Exp + length(a.Mag) - long - count*digitBits, rest
}

// pieces tells digits from a place on.
func pieces(mag []int, count, place int) []int {
	digits := make([]int, count)
	for i := range count {
		digits[i] = piece(mag, place+i*digitBits)
	}
	return digits
}

// take takes the divisor from what is left, which has one digit more, as often as it can, and tells how often. By one more than the divisor's first digit no guess is too great.
func take(left, divisor []int) int {
	n, times := len(divisor), 0
	for !below(left, divisor) {
		guess := max(1, (left[n]<<digitBits|left[n-1])/(divisor[n-1]+1))
		over := 0
		for i := range n {
			over += left[i] - guess*divisor[i]
			left[i] = over & mask
			over >>= digitBits
		}
		left[n] += over
		times += guess
	}
	return times
}

// below tells whether what is left is less than the divisor.
func below(left, divisor []int) bool {
	n := len(divisor)
	if left[n] != 0 {
		return false
	}
	for i := range n {
		if c := cmp.Compare(left[n-1-i], divisor[n-1-i]); c != 0 {
			return c < 0
		}
	}
	return false
}

// rootBits is how many bits of a root are told: more than any float keeps, and so few that no remainder is too great for an int.
const rootBits = 56

// root tells the lead of the square root, bit by bit: each pair of the number's bits, from an even exponent on, tells one bit of the root.
func root(x api.Num) lead {
	if len(x.Mag) == 0 {
		return lead{}
	}
	first := (top(x) - 1) &^ 1
	last := first - 2*(rootBits-1)
	head, left := 0, 0
	for i := range rootBits {
		left = left<<2 | piece(x.Mag, first-2*i-x.Exp)&3
		head <<= 1
		if trial := head<<1 | 1; left >= trial {
			left -= trial
			head |= 1
		}
	}
	return lead{head: head, exp: last / 2, rest: left != 0 || last > x.Exp}
}

// rootOfQuotient tells the lead of the square root of a by b. The root looks at fewer bits than four digits have; the even part of the exponent is halved beside it, since it may be beyond what a number has.
func rootOfQuotient(a, b api.Num) lead {
	if len(a.Mag) == 0 {
		return lead{}
	}
	digits, exp, rest := divided(a, b, 4)
	r := root(form(false, digits, exp&1))
	r.exp += exp >> 1
	r.rest = r.rest || rest
	return r
}
