package reverse

import (
	"cmp"
	"slices"
)

// pile is a worklist: each thing stands on it once, however often it was put there, and the greatest one is taken first.
type pile[T cmp.Ordered] struct{ rising []T }

// put puts a thing on it.
func (p *pile[T]) put(thing T) {
	if at, there := slices.BinarySearch(p.rising, thing); !there {
		p.rising = slices.Insert(p.rising, at, thing)
	}
}

// take takes the greatest thing; false: there is none.
func (p *pile[T]) take() (T, bool) {
	last := len(p.rising) - 1
	if last < 0 {
		var nothing T
		return nothing, false
	}
	thing := p.rising[last]
	p.rising = p.rising[:last]
	return thing, true
}
