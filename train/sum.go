package train

import "pupil/api"

// checksum is what a checksum comes to so far; ints that are put to it count modulo 2^64.
type checksum uint64

// A checksum has this value ahead of all ints, and is multiplied with this number at each.
const (
	beginning checksum = 14695981039346656037
	factor    checksum = 1099511628211
)

// put puts ints to it.
func (h *checksum) put(l ...int) {
	for _, v := range l {
		*h = (*h ^ checksum(v)) * factor
	}
}

// putAll puts matrices to it: how many, and all that they have.
func (h *checksum) putAll(l []api.Matrix) {
	h.put(len(l))
	for _, m := range l {
		h.put(m.Rows, m.Cols, m.Width)
		h.put(m.Bits...)
	}
}
