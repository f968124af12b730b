package state

import (
	"pupil/api"
	"pupil/bits"
	"pupil/tensor"
)

// reader takes numbers from bytes. It gives up at the first one that can't stand there.
type reader struct {
	bytes []byte
	at    int // the place of the next one
}

// state takes all that there is.
func (r *reader) state() api.State {
	for i := range len(mark) {
		r.number(1, func(n int) bool { return n == int(mark[i]) })
	}
	var s api.State
	s.Step, s.Epoch, s.Batch = r.number(intSize, isStep), r.number(intSize, isStep), r.number(intSize, isStep)
	s.Loss, s.Rate = r.number(intSize, isAny), r.number(intSize, isAny)
	s.Params = r.matrices(listSize, api.MaxParams)
	for range r.number(listSize, atMost(api.MaxParams)) {
		s.Slots = append(s.Slots, r.matrices(slotSize, maxSlots))
	}
	r.end()
	return s
}

// end takes the sum, and wants nothing behind it.
func (r *reader) end() {
	at, sum := r.at, Sum(r.bytes[:r.at])
	want(r.number(sumSize, isAny) == sum, fault{err: api.ErrSum, at: at})
	want(r.at == len(r.bytes), fault{err: api.ErrBytes, at: r.at})
}

// matrices takes how many there are, in so many bytes, and each of them.
func (r *reader) matrices(size, most int) []api.Matrix {
	var l []api.Matrix
	for range r.number(size, atMost(most)) {
		l = append(l, r.matrix())
	}
	return l
}

func (r *reader) matrix() api.Matrix {
	width := r.number(widthSize, func(n int) bool { return bits.Valid(0, n) })
	rows := r.number(sideSize, func(n int) bool { return n > 0 })
	cols := r.number(sideSize, func(n int) bool {
		return tensor.CheckShape(api.Shape{Rows: rows, Cols: n, Width: width}) == api.OK
	})
	list := make([]int, rows*cols)
	for i := range list {
		list[i] = r.number(width/8, func(n int) bool { return isFinite(n, width) })
	}
	return api.Matrix{Rows: rows, Cols: cols, Width: width, Bits: list}
}

// number takes a number of so many bytes, the lowest first, if it is right.
func (r *reader) number(size int, right func(n int) bool) int {
	want(len(r.bytes)-r.at >= size, fault{err: api.ErrEnd, at: len(r.bytes)})
	n := 0
	for i := range size {
		n |= int(r.bytes[r.at+i]) << (8 * i)
	}
	want(right(n), fault{err: api.ErrBytes, at: r.at})
	r.at += size
	return n
}

func isAny(int) bool { return true }

func atMost(most int) func(n int) bool {
	return func(n int) bool { return n <= most }
}
