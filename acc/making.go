package acc

import (
	"pupil/api"
	"pupil/bits"
	"pupil/exact"
)

const (
	digitBits = 30
	mask      = 1<<digitBits - 1
	least     = 2 * -1074 // the exponent of the last bit of the least product, which the columns begin with
	most      = 2 * 971   // that of the greatest one
	parts     = 5         // how many columns a product goes to
	places    = (most-least)/digitBits + parts
)

// making is a sum that is being made. It embeds the sum that it tells, but what is finite of that stands in columns, which are carried once, at the end: a product adds less than 2^33 to each, so that MaxList of them don't come near the ends of the ints.
type making struct {
	api.Acc
	width     int
	columns   [places]int
	low, high int // the columns that were added to are from low to below high
}

// begin begins a sum of floats of a width.
func begin(w int) making { return making{width: w, low: places} }

// add adds the product of two floats. What is special of it, the single operation tells.
func (m *making) add(x, y int) {
	special := func(b int) bool { return bits.Class(b, m.width) >= api.IsInfinite }
	if !special(x) && !special(y) {
		m.lay(x, y)
		return
	}
	f := flag(bits.Mul(x, y, m.width), m.width)
	m.Plus, m.Minus, m.None = m.Plus || f.Plus, m.Minus || f.Minus, m.None || f.None
}

// lay adds the product of two finite floats to the columns: the digits of the one, moved to where both exponents put them, times those of the other one.
func (m *making) lay(x, y int) {
	neg, a, exp, _ := bits.Parts(x, m.width)
	other, b, up, _ := bits.Parts(y, m.width)
	if a == 0 || b == 0 {
		return
	}
	if neg != other {
		b = -b
	}
	place := exp + up - least
	first, shift := place/digitBits, place%digitBits
	m.low, m.high = min(m.low, first), max(m.high, first+parts)
	moved := [3]int{a << shift & mask, a >> (digitBits - shift) & mask, a >> (2*digitBits - shift)}
	for i := range len(moved) {
		for j, d := range [2]int{b & mask, b >> digitBits} {
			p := moved[i] * d
			m.columns[first+i+j] += p & mask
			m.columns[first+i+j+1] += p >> digitBits
		}
	}
}

// told tells the sum.
func (m *making) told() api.Acc {
	// No sum of so few products is too long.
	m.Sum, _ = exact.Columns(m.columns[min(m.low, m.high):m.high], least+m.low*digitBits)
	return m.Acc
}
