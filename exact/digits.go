package exact

import (
	"cmp"
	"math/bits"

	"pupil/api"
)

const (
	digitBits = 30
	mask      = 1<<digitBits - 1
	mostBits  = api.MaxDigits * digitBits
)

// tooLong is what a number gives up with that has no valid Num.
const tooLong = "a number too long"

// areDigits tells whether all of them are from 0 to 2^30 - 1.
func areDigits(mag []int) bool {
	for i := range len(mag) {
		if mag[i]&^mask != 0 {
			return false
		}
	}
	return true
}

// digitsOf tells an int's digits.
func digitsOf(n uint) []int {
	return []int{int(n & mask), int(n >> digitBits & mask), int(n >> (2 * digitBits))}
}

// length tells how many bits digits have, of which the last one is not 0.
func length(mag []int) int {
	n := len(mag)
	if n == 0 {
		return 0
	}
	return (n-1)*digitBits + bits.Len(uint(mag[n-1]))
}

// top tells the exponent of the least power of 2 that is greater, signs aside.
func top(x api.Num) int { return x.Exp + length(x.Mag) }

// signOf tells a valid number's sign.
func signOf(x api.Num) int {
	switch {
	case len(x.Mag) == 0:
		return 0
	case x.Neg:
		return -1
	}
	return 1
}

// piece tells as many bits as a digit has, from a place on; beyond the digits' ends, below too, there are noughts.
func piece(mag []int, place int) int {
	i, shift := place/digitBits, place%digitBits
	if shift < 0 {
		i, shift = i-1, shift+digitBits
	}
	return (digit(mag, i)>>shift | digit(mag, i+1)<<(digitBits-shift)) & mask
}

// digit tells one digit, or 0 beyond the ends.
func digit(mag []int, i int) int {
	if i < 0 || i >= len(mag) {
		return 0
	}
	return mag[i]
}

// fit gives up, if no valid Num has so many bits and that exponent.
func fit(long, exp int) {
	if long > mostBits || exp < -api.MaxExp || exp > api.MaxExp {
		panic(tooLong)
	}
}

// form makes the one form of a number in its digits' own memory, or gives up.
func form(neg bool, digits []int, exp int) api.Num {
	n := len(digits)
	for n > 0 && digits[n-1] == 0 {
		n--
	}
	if n == 0 {
		return api.Num{}
	}
	zeros := trailing(digits)
	long := length(digits[:n]) - zeros
	// An exponent that wraps round here comes out at the other end of the ints, and fits no better.
	fit(long, exp+zeros)
	count := (long + digitBits - 1) / digitBits
	for i := range count {
		digits[i] = piece(digits[:n], zeros+i*digitBits)
	}
	return api.Num{Neg: neg, Mag: digits[:count], Exp: exp + zeros}
}

// trailing tells how many noughts stand below the lowest bit of digits that are not all 0.
func trailing(digits []int) int {
	i := 0
	for digits[i] == 0 {
		i++
	}
	return i*digitBits + bits.TrailingZeros(uint(digits[i]))
}

// orderOfSizes tells the order of two valid numbers, signs aside: their bits are held against each other from the top, so that none is laid out.
func orderOfSizes(a, b api.Num) int {
	if top(a) != top(b) {
		return cmp.Compare(top(a), top(b))
	}
	long, other := length(a.Mag), length(b.Mag)
	for i := range max(len(a.Mag), len(b.Mag)) {
		down := (i + 1) * digitBits
		if c := cmp.Compare(piece(a.Mag, long-down), piece(b.Mag, other-down)); c != 0 {
			return c
		}
	}
	return 0
}

// sum tells the sum of two terms, or gives up ahead of laying it out: where they reach over more places than a valid Num and one more, the lower one's last bit stays in the sum, and the upper one's first bit, or the one behind that.
func sum(terms ...api.Num) api.Num {
	low, high := api.MaxExp, -api.MaxExp
	for _, x := range terms {
		if len(x.Mag) > 0 {
			low, high = min(low, x.Exp), max(high, top(x))
		}
	}
	reach := max(0, high-low)
	if reach > mostBits+1 {
		panic(tooLong)
	}
	columns := make([]int, reach/digitBits+2)
	for _, x := range terms {
		lay(columns, x, x.Exp-low)
	}
	return settled(columns, low)
}

// settled tells the number that columns, with room on top for what they carry, tell times 2^exp; in their own memory.
func settled(columns []int, exp int) api.Num {
	neg := carry(columns, 1)
	if neg {
		carry(columns, -1)
	}
	return form(neg, columns, exp)
}

// lay adds a number's digits to columns, from a place on.
func lay(columns []int, x api.Num, place int) {
	first, shift := place/digitBits, place%digitBits
	for i := range len(x.Mag) {
		d := x.Mag[i] << shift
		if x.Neg {
			d = -d
		}
		columns[first+i] += d & mask
		columns[first+i+1] += d >> digitBits
	}
}

// carry makes digits of columns, of any ints, times sign; true: what they tell is below 0, and the digits lack a -1 on top. Each column is taken apart first, so that no int is too great.
func carry(columns []int, sign int) bool {
	over := 0
	for i := range len(columns) {
		column := sign * columns[i]
		over += column & mask
		columns[i] = over & mask
		over = over>>digitBits + column>>digitBits
	}
	return over < 0
}

// product tells a product, or gives up ahead of laying it out: odd numbers make an odd one, and it has at most one bit less than both together. (With 0 nothing gives up.)
func product(a, b api.Num) api.Num {
	fit(length(a.Mag)+length(b.Mag)-1, a.Exp+b.Exp)
	digits := make([]int, len(a.Mag)+len(b.Mag))
	for i := range len(a.Mag) {
		over := 0
		for j := range len(b.Mag) {
			over += digits[i+j] + a.Mag[i]*b.Mag[j]
			digits[i+j] = over & mask
			over >>= digitBits
		}
		digits[i+len(b.Mag)] = over
	}
	return form(a.Neg != b.Neg, digits, a.Exp+b.Exp)
}
