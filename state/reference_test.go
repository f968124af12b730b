package state_test

import (
	"encoding/binary"
	"math"
	"math/big"

	"pupil/api"
)

// The chapter reckoned once more: a state's form by what is said of its pieces, its bytes by encoding/binary, its sum by math/big.

// wantedForm tells whether a state is in form.
func wantedForm(s api.State) bool {
	for _, n := range []int{s.Step, s.Epoch, s.Batch} {
		if n < 0 || n > 1<<40 {
			return false
		}
	}
	if len(s.Params) > 64 || len(s.Slots) > 64 {
		return false
	}
	all := [][]api.Matrix{s.Params}
	for _, l := range s.Slots {
		if len(l) > 4 {
			return false
		}
		all = append(all, l)
	}
	for _, l := range all {
		for _, m := range l {
			if !wantedMatrix(m) {
				return false
			}
		}
	}
	return true
}

func wantedMatrix(m api.Matrix) bool {
	elems := new(big.Int).Mul(big.NewInt(int64(m.Rows)), big.NewInt(int64(m.Cols)))
	switch {
	case m.Width != 32 && m.Width != 64, m.Rows < 1, m.Cols < 1, elems.Cmp(big.NewInt(4096)) > 0, elems.Cmp(big.NewInt(int64(len(m.Bits)))) != 0:
		return false
	}
	for _, b := range m.Bits {
		if m.Width == 32 && (b < 0 || b > math.MaxUint32) || !finite(b, m.Width) {
			return false
		}
	}
	return true
}

// finite tells it by the exponent's field.
func finite(b, width int) bool {
	if width == 32 {
		return b>>23&0xFF != 0xFF
	}
	return b>>52&0x7FF != 0x7FF
}

// wantedBytes tells the bytes of a state in form.
func wantedBytes(s api.State) []byte {
	b := []byte{0x70, 0x73, 0x74, 0x01}
	le := binary.LittleEndian
	for _, n := range []int{s.Step, s.Epoch, s.Batch, s.Loss, s.Rate} {
		b = le.AppendUint64(b, uint64(n))
	}
	matrices := func(l []api.Matrix) {
		for _, m := range l {
			b = append(b, byte(m.Width))
			b = le.AppendUint16(b, uint16(m.Rows))
			b = le.AppendUint16(b, uint16(m.Cols))
			for _, x := range m.Bits {
				if m.Width == 32 {
					b = le.AppendUint32(b, uint32(x))
				} else {
					b = le.AppendUint64(b, uint64(x))
				}
			}
		}
	}
	b = le.AppendUint16(b, uint16(len(s.Params)))
	matrices(s.Params)
	b = le.AppendUint16(b, uint16(len(s.Slots)))
	for _, l := range s.Slots {
		b = append(b, byte(len(l)))
		matrices(l)
	}
	return le.AppendUint32(b, uint32(wantedSum(b)))
}

// wantedSum tells a sum.
func wantedSum(b []byte) int {
	sum, one := new(big.Int), new(big.Int)
	for i, x := range b {
		if x != 0 {
			sum.Add(sum, one.Mul(big.NewInt(int64(x)), big.NewInt(int64(i)+1)))
		}
	}
	return int(sum.Mod(sum, big.NewInt(1<<32)).Int64())
}

// piece is a number that was taken from bytes: its place, and whether there were bytes enough for it.
type piece struct {
	at int
	n  uint64
	ok bool
}

// wantedRead tells what bytes say: the state, or the first thing that is wrong and its place.
func wantedRead(b []byte) (s api.State, at int, e api.Errno) {
	if len(b) > 1<<24 {
		return api.State{}, 0, api.ErrLong
	}
	left := b
	take := func(size int) piece {
		p := piece{at: len(b) - len(left)}
		if len(left) < size {
			return p
		}
		eight := make([]byte, 8)
		copy(eight, left[:size])
		left = left[size:]
		p.n, p.ok = binary.LittleEndian.Uint64(eight), true
		return p
	}
	// look tells what is wrong of a piece, if it may be from low to high.
	look := func(p piece, low, high uint64) bool {
		switch {
		case !p.ok:
			at, e = len(b), api.ErrEnd
		case p.n < low || p.n > high:
			at, e = p.at, api.ErrBytes
		}
		return e == api.OK
	}
	for _, x := range []uint64{0x70, 0x73, 0x74, 1} {
		if !look(take(1), x, x) {
			return api.State{}, at, e
		}
	}
	for i, to := range []*int{&s.Step, &s.Epoch, &s.Batch, &s.Loss, &s.Rate} {
		p, most := take(8), uint64(1<<40)
		if i > 2 {
			most = math.MaxUint64
		}
		if !look(p, 0, most) {
			return api.State{}, at, e
		}
		*to = int(p.n)
	}
	matrix := func() (m api.Matrix, ok bool) {
		width := take(1)
		if !look(width, 32, 64) {
			return m, false
		}
		if width.n != 32 && width.n != 64 {
			at, e = width.at, api.ErrBytes
			return m, false
		}
		rows := take(2)
		if !look(rows, 1, math.MaxUint16) {
			return m, false
		}
		cols := take(2)
		if !look(cols, 1, 4096/rows.n) {
			return m, false
		}
		m = api.Matrix{Rows: int(rows.n), Cols: int(cols.n), Width: int(width.n)}
		for range rows.n * cols.n {
			x := take(m.Width / 8)
			if !look(x, 0, math.MaxUint64) {
				return m, false
			}
			if !finite(int(x.n), m.Width) {
				at, e = x.at, api.ErrBytes
				return m, false
			}
			m.Bits = append(m.Bits, int(x.n))
		}
		return m, true
	}
	matrices := func(size int, most uint64) (l []api.Matrix, ok bool) {
		count := take(size)
		if !look(count, 0, most) {
			return nil, false
		}
		for range count.n {
			m, ok := matrix()
			if !ok {
				return nil, false
			}
			l = append(l, m)
		}
		return l, true
	}
	var ok bool
	if s.Params, ok = matrices(2, 64); !ok {
		return api.State{}, at, e
	}
	lists := take(2)
	if !look(lists, 0, 64) {
		return api.State{}, at, e
	}
	for range lists.n {
		l, ok := matrices(1, 4)
		if !ok {
			return api.State{}, at, e
		}
		s.Slots = append(s.Slots, l)
	}
	sum := take(4)
	switch {
	case !look(sum, 0, math.MaxUint64):
	case int(sum.n) != wantedSum(b[:sum.at]):
		at, e = sum.at, api.ErrSum
	case len(left) > 0:
		at, e = len(b)-len(left), api.ErrBytes
	default:
		return s, 0, api.OK
	}
	return api.State{}, at, e
}
