package state

import "pupil/api"

// mark is what a state's bytes begin with: "pst" and the number of this way to write it.
const mark = "pst\x01"

// How many bytes the numbers have; an element has an eighth of its width.
const (
	intSize   = 8 // Step, Epoch, Batch, Loss, Rate
	listSize  = 2 // how many Params, how many lists in Slots
	slotSize  = 1 // how many matrices of such a list
	widthSize = 1
	sideSize  = 2 // Rows, Cols
	sumSize   = 4
)

// size tells how many bytes a state in form has.
func size(s api.State) int {
	n := len(mark) + 5*intSize + 2*listSize + sumSize
	n += sizeOf(s.Params)
	for _, l := range s.Slots {
		n += slotSize + sizeOf(l)
	}
	return n
}

func sizeOf(l []api.Matrix) int {
	n := 0
	for _, m := range l {
		n += widthSize + 2*sideSize + len(m.Bits)*m.Width/8
	}
	return n
}

// written tells the bytes of a state that check takes.
func written(s api.State) []byte {
	w := writer{bytes: make([]byte, 0, size(s))}
	w.bytes = append(w.bytes, mark...)
	for _, n := range []int{s.Step, s.Epoch, s.Batch, s.Loss, s.Rate} {
		w.number(n, intSize)
	}
	w.matrices(s.Params, listSize)
	w.number(len(s.Slots), listSize)
	for _, l := range s.Slots {
		w.matrices(l, slotSize)
	}
	w.number(Sum(w.bytes), sumSize)
	return w.bytes
}

// writer puts numbers behind bytes.
type writer struct{ bytes []byte }

// number puts so many bytes of a number, the lowest first.
func (w *writer) number(n, size int) {
	for i := range size {
		w.bytes = append(w.bytes, byte(n>>(8*i)))
	}
}

// matrices puts how many there are, in so many bytes, and each of them.
func (w *writer) matrices(l []api.Matrix, size int) {
	w.number(len(l), size)
	for _, m := range l {
		w.number(m.Width, widthSize)
		w.number(m.Rows, sideSize)
		w.number(m.Cols, sideSize)
		for _, b := range m.Bits {
			w.number(b, m.Width/8)
		}
	}
}
