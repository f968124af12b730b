package state_test

import (
	"bytes"
	"math/rand"
	"strconv"
	"testing"

	"pupil/api"
	"pupil/state"
)

// wantRead wants an error and a place of bytes, and nothing beside them; the chapter reckoned once more has to say so too.
func wantRead(t *testing.T, what string, b []byte, at int, want api.Errno) {
	t.Helper()
	if s, place, e := wantedRead(b); place != at || e != want {
		t.Fatalf("%s: the test is wrong: %v, %d, %v", what, s, place, e)
	}
	s, place, e := state.Read(b)
	if place != at || e != want {
		t.Errorf("%s: %d, %v, want %d, %v", what, place, e, at, want)
	}
	if e != api.OK && !sameState(s, api.State{}) {
		t.Errorf("%s: %v beside an error", what, s)
	}
}

// wantLike wants Read to tell what the chapter reckoned once more says.
func wantLike(t *testing.T, what string, b []byte) api.Errno {
	t.Helper()
	s, at, e := state.Read(b)
	wanted, place, want := wantedRead(b)
	if at != place || e != want || !sameState(s, wanted) {
		t.Errorf("%s: %v, %d, %v, want %v, %d, %v", what, s, at, e, wanted, place, want)
	}
	return e
}

// head is what the bytes of a state begin with: the first four, and five numbers, of which those that are not given are 0.
func head(numbers ...int) []byte {
	b := []byte("pst\x01")
	for i := range 5 {
		n := 0
		if i < len(numbers) {
			n = numbers[i]
		}
		b = append(b, lay(n, 8)...)
	}
	return b
}

func cat(l ...[]byte) []byte { return bytes.Join(l, nil) }

// matrixBytes are a matrix's, of whatever numbers.
func matrixBytes(width, rows, cols int, elements ...int) []byte {
	b := cat(lay(width, 1), lay(rows, 2), lay(cols, 2))
	for _, x := range elements {
		b = append(b, lay(x, width/8)...)
	}
	return b
}

// TestP2304Long: MaxState bytes, and one more.
func TestP2304Long(t *testing.T) {
	for _, s := range []api.State{{}, sample(), greatest()} {
		b := written(t, s)
		full := cat(b, make([]byte, api.MaxState-len(b)))
		wantRead(t, "MaxState bytes", full, len(b), api.ErrBytes)
		wantRead(t, "one more", append(full, 0), 0, api.ErrLong)
		wantRead(t, "one more, of which one is wrong", cat([]byte{0x70, 0}, full[1:]), 0, api.ErrLong)
	}
	wantRead(t, "MaxState noughts", make([]byte, api.MaxState), 0, api.ErrBytes)
	wantRead(t, "noughts, one more", make([]byte, api.MaxState+1), 0, api.ErrLong)
	wantRead(t, "many", make([]byte, 1<<25), 0, api.ErrLong)
}

// TestP2304Mark: the first four bytes: each of them wrong, the first of several told, also where the bytes end behind it.
func TestP2304Mark(t *testing.T) {
	whole := written(t, sample())
	for _, b := range [][]byte{whole, whole[:44], whole[:4], {0x70, 0x73, 0x74, 1, 9}} {
		for place := range 4 {
			for x := range 256 {
				turned := bytes.Clone(b)
				turned[place] ^= byte(x)
				if x == 0 {
					continue
				}
				wantRead(t, "one wrong", turned, place, api.ErrBytes)
				wantRead(t, "one wrong at the end", turned[:place+1], place, api.ErrBytes)
				wantRead(t, "the end ahead of one that is wrong", turned[:place], place, api.ErrEnd)
				for later := place + 1; later < 4; later++ {
					turned[later]++
					wantRead(t, "several wrong", turned, place, api.ErrBytes)
				}
			}
		}
	}
	wantRead(t, "none", nil, 0, api.ErrEnd)
	wantRead(t, "an empty list", []byte{}, 0, api.ErrEnd)
	wantRead(t, "the example", []byte{0x70, 0x73, 0x75, 1}, 2, api.ErrBytes)
	wantRead(t, "a later way to write it", []byte("pst\x02"), 3, api.ErrBytes)
	wantRead(t, "capitals", []byte("PST\x01"), 0, api.ErrBytes)
	wantRead(t, "shifted", []byte("\x00pst\x01"), 0, api.ErrBytes)
}

// TestP2304End: bytes cut off at every place.
func TestP2304End(t *testing.T) {
	for i, s := range states() {
		b := written(t, s)
		step := 1
		if len(b) > 2000 {
			step = len(b) / 97
		}
		for n := 0; n < len(b); n += step {
			wantRead(t, strconv.Itoa(i)+" cut off at "+strconv.Itoa(n), b[:n], n, api.ErrEnd)
		}
		for n := range 5 {
			wantRead(t, strconv.Itoa(i)+" without the last", b[:len(b)-1-n], len(b)-1-n, api.ErrEnd)
		}
	}
}

// TestP2304Steps: Step, Epoch and Batch of MaxStep, of one more, of the highest bit, also where the bytes end behind them; Loss and Rate are any.
func TestP2304Steps(t *testing.T) {
	tail := make([]byte, 4)
	for i := range 5 {
		for _, n := range []int{0, 1, api.MaxStep - 1, api.MaxStep, api.MaxStep + 1, 1 << 41, 1 << 56, highest, lowest, lowest + 5, -1, -api.MaxStep} {
			numbers := make([]int, 5)
			numbers[i] = n
			b, what := head(numbers...), "number "+strconv.Itoa(i)+" is "+strconv.Itoa(n)
			at := 4 + 8*i
			if i > 2 || n >= 0 && n <= api.MaxStep {
				wantRead(t, what, summed(cat(b, tail)), 0, api.OK)
				wantRead(t, what+" at the end", b[:at+8], at+8, api.ErrEnd)
				continue
			}
			wantRead(t, what, summed(cat(b, tail)), at, api.ErrBytes)
			wantRead(t, what+" at the end", b[:at+8], at, api.ErrBytes)
			for within := range 8 {
				wantRead(t, what+", the end within it", b[:at+within], at+within, api.ErrEnd)
			}
		}
	}
	wantRead(t, "the first of several", head(0, -1, -1), 12, api.ErrBytes)
	wantRead(t, "the first of several", head(-1, -1, -1), 4, api.ErrBytes)
}

// TestP2304Counts: each count at its limit and one more, ahead of what it counts, also where the bytes end behind it.
func TestP2304Counts(t *testing.T) {
	one := matrixBytes(32, 1, 1, 1)
	slots := func(lists ...[]byte) []byte { return cat(head(), lay(0, 2), lay(len(lists), 2), cat(lists...)) }
	four := cat(lay(4, 1), one, one, one, one)
	for _, x := range []struct {
		what        string
		ahead       []byte
		size, limit int
		thing       []byte
		behind      []byte
	}{
		{"Params", head(), 2, 64, one, lay(0, 2)},
		{"lists", cat(head(), lay(0, 2)), 2, 64, lay(0, 1), nil},
		{"lists behind a parameter", cat(head(), lay(1, 2), one), 2, 64, lay(0, 1), nil},
		{"matrices of a list", cat(head(), lay(0, 2), lay(1, 2)), 1, 4, one, nil},
		{"matrices of a last list", cat(slots(nil, nil), four), 1, 4, one, nil},
	} {
		at := len(x.ahead)
		most := 1 << (8 * x.size)
		for n := range most {
			if n > 300 && n%251 != 0 && n != most-1 {
				continue
			}
			what := strconv.Itoa(n) + " " + x.what
			b := cat(x.ahead, lay(n, x.size))
			if n <= x.limit {
				wantRead(t, what, summed(cat(b, bytes.Repeat(x.thing, n), x.behind)), 0, api.OK)
				wantRead(t, what+" at the end", b, at+x.size, api.ErrEnd)
				continue
			}
			wantRead(t, what+" at the end", b, at, api.ErrBytes)
			wantRead(t, what, summed(cat(b, bytes.Repeat(x.thing, min(n, 70)), x.behind)), at, api.ErrBytes)
			wantRead(t, what+" ahead of what is wrong", cat(b, bytes.Repeat([]byte{255}, 99)), at, api.ErrBytes)
			if x.size > 1 {
				wantRead(t, what+", the end within", b[:at+1], at+1, api.ErrEnd)
			}
		}
	}
}

// spots are the places at which a matrix of given bytes can stand, first, in the middle, last, as a parameter and in lists: what is ahead of it and behind it.
func spots() [][2][]byte {
	var l [][2][]byte
	one := matrixBytes(64, 1, 2, 1, 2)
	for n := 1; n <= 5; n += 2 {
		for k := 0; k < n; k += max(1, n/2) {
			l = append(l, [2][]byte{cat(head(9, 3), lay(n, 2), bytes.Repeat(one, k)), cat(bytes.Repeat(one, n-1-k), lay(0, 2))})
		}
	}
	for n := 1; n <= 4; n++ {
		for k := range n {
			list := [2][]byte{cat(lay(n, 1), bytes.Repeat(one, k)), bytes.Repeat(one, n-1-k)}
			ahead := cat(head(0, 1, 2, -3, 4), lay(1, 2), one)
			l = append(l, [2][]byte{cat(ahead, lay(1, 2), list[0]), list[1]})
			l = append(l, [2][]byte{cat(ahead, lay(4, 2), lay(0, 1), lay(1, 1), one, list[0]), cat(list[1], lay(0, 1))})
		}
	}
	return l
}

// wantAtEach wants bytes that begin a matrix to be refused at a place of them wherever they stand: at the end, and with the rest behind them.
func wantAtEach(t *testing.T, what string, b, rest []byte, at int) {
	t.Helper()
	for _, x := range spots() {
		wantRead(t, what+" at the end", cat(x[0], b), len(x[0])+at, api.ErrBytes)
		wantRead(t, what, summed(cat(x[0], b, rest, x[1])), len(x[0])+at, api.ErrBytes)
		wantRead(t, what+" with a wrong sum", cat(x[0], b, rest, x[1], lay(0, 4)), len(x[0])+at, api.ErrBytes)
	}
}

// TestP2304Width: a matrix's width.
func TestP2304Width(t *testing.T) {
	for w := range 256 {
		if w != 32 && w != 64 {
			wantAtEach(t, "width "+strconv.Itoa(w), lay(w, 1), cat(lay(1, 2), lay(1, 2), lay(0, 8)), 0)
			wantAtEach(t, "width and Rows", cat(lay(w, 1), lay(0, 2)), lay(1, 2), 0)
		}
	}
}

// TestP2304Sides: Rows of 0, Cols of 0, and too many for these Rows.
func TestP2304Sides(t *testing.T) {
	for _, w := range widths {
		wantAtEach(t, "Rows 0", matrixBytes(w, 0, 1)[:3], cat(lay(1, 2), lay(0, w/8)), 1)
		wantAtEach(t, "Rows 0, Cols 0", matrixBytes(w, 0, 0), nil, 1)
		wantAtEach(t, "Rows 0, many Cols", matrixBytes(w, 0, 1<<16-1), nil, 1)
		wantAtEach(t, "Cols 0", matrixBytes(w, 1, 0), nil, 3)
		wantAtEach(t, "many Rows, Cols 0", matrixBytes(w, 4096, 0), nil, 3)
		for _, x := range [][2]int{{1, 4097}, {2, 2049}, {3, 1366}, {64, 65}, {4096, 2}, {4097, 1}, {4097, 0}, {1<<16 - 1, 1}, {1<<16 - 1, 1<<16 - 1}, {1 << 8, 1 << 15}, {1, 1<<16 - 1}} {
			wantAtEach(t, strconv.Itoa(x[0])+" by "+strconv.Itoa(x[1]), matrixBytes(w, x[0], x[1]), nil, 3)
		}
	}
}

// TestP2304SidesTaken: sides that are as great as may be, and bytes that end within sides.
func TestP2304SidesTaken(t *testing.T) {
	for _, w := range widths {
		for _, x := range [][2]int{{1, 1}, {1, 4096}, {4096, 1}, {64, 64}, {2, 2048}, {3, 1365}, {256, 16}} {
			b := matrixBytes(w, x[0], x[1], make([]int, x[0]*x[1])...)
			for _, y := range spots()[:3] {
				wantRead(t, "taken", summed(cat(y[0], b, y[1])), 0, api.OK)
				wantRead(t, "at the end", cat(y[0], b[:5]), len(y[0])+5, api.ErrEnd)
			}
		}
		for _, y := range spots() {
			for n, b := range [][]byte{nil, lay(w, 1), cat(lay(w, 1), lay(0, 1)), cat(lay(w, 1), lay(1, 2)), cat(lay(w, 1), lay(1, 2), lay(0, 1))} {
				wantRead(t, "the end within sides", cat(y[0], b), len(y[0])+n, api.ErrEnd)
			}
		}
	}
}

// TestP2304Elements: elements that are infinite or no number, and bytes that end within one.
func TestP2304Elements(t *testing.T) {
	for _, w := range widths {
		size := w / 8
		for _, x := range endless(w) {
			for k := range 3 {
				b := cat(matrixBytes(w, 3, 1, make([]int, k)...), lay(x, size))
				wantAtEach(t, strconv.Itoa(x), b, make([]byte, (2-k)*size), 5+k*size)
				for n := range size {
					for _, y := range spots() {
						at := len(y[0]) + 5 + k*size + n
						wantRead(t, "the end within "+strconv.Itoa(x), cat(y[0], b)[:at], at, api.ErrEnd)
					}
				}
			}
		}
		for _, y := range spots() {
			b := matrixBytes(w, 1, len(edges(w)), edges(w)...)
			wantRead(t, "finite ones", summed(cat(y[0], b, y[1])), 0, api.OK)
		}
		wantAtEach(t, "the first of several", matrixBytes(w, 1, 2, endless(w)[2], endless(w)[0]), nil, 5)
	}
}

// TestP2304Sum: a sum that is another one, and bytes behind it.
func TestP2304Sum(t *testing.T) {
	for i, s := range states() {
		b := written(t, s)
		at := len(b) - 4
		for k := range 4 {
			for _, x := range []byte{1, 0x10, 0x80, 0xFF} {
				turned := bytes.Clone(b)
				turned[at+k] ^= x
				wantRead(t, strconv.Itoa(i)+": another sum", turned, at, api.ErrSum)
				wantRead(t, strconv.Itoa(i)+": another sum and a byte", append(turned, 0), at, api.ErrSum)
				wantRead(t, strconv.Itoa(i)+": another sum and bytes", append(turned, b...), at, api.ErrSum)
			}
			wantRead(t, strconv.Itoa(i)+": the end within another sum", cat(b[:at], []byte{^b[at], ^b[at+1], ^b[at+2]}[:min(k, 3)]), at+min(k, 3), api.ErrEnd)
		}
		for _, more := range [][]byte{{0}, {255}, {0, 0}, lay(0, 4), {1, 2, 3, 4, 5}, b} {
			wantRead(t, strconv.Itoa(i)+": bytes behind", cat(b, more), len(b), api.ErrBytes)
		}
		wantRead(t, strconv.Itoa(i)+": a sum of all that is ahead of it stands behind", summed(b), len(b), api.ErrBytes)
	}
}

// TestP2304Turned: each byte of a state's bytes turned, one by one: no such bytes are taken.
func TestP2304Turned(t *testing.T) {
	for i, s := range states() {
		b := written(t, s)
		if len(b) > 3000 {
			continue
		}
		for at := range b {
			for _, x := range []byte{1, 2, 4, 8, 0x10, 0x20, 0x40, 0x80, 0xFF, 0x55} {
				turned := bytes.Clone(b)
				turned[at] ^= x
				if e := wantLike(t, strconv.Itoa(i)+": byte "+strconv.Itoa(at), turned); e == api.OK {
					t.Errorf("%d: byte %d turned by %x is taken", i, at, x)
				}
			}
		}
	}
}

// TestP2304Mended: bytes turned at random, cut off and grown, with a sum that is right: what is taken is what they say.
func TestP2304Mended(t *testing.T) {
	r := rand.New(rand.NewSource(2304))
	told := map[api.Errno]int{}
	for _, s := range states() {
		b := written(t, s)
		if len(b) > 3000 {
			continue
		}
		for range 400 {
			turned := bytes.Clone(b[:len(b)-4])
			for range 1 + r.Intn(2) {
				turned[r.Intn(len(turned))] = byte(r.Intn(1<<r.Intn(9) + 1))
			}
			switch r.Intn(8) {
			case 0:
				turned = turned[:r.Intn(len(turned))]
			case 1:
				turned = append(turned, byte(r.Intn(256)))
			}
			told[wantLike(t, "mended", summed(turned))]++
		}
	}
	for _, e := range []api.Errno{api.OK, api.ErrEnd, api.ErrBytes, api.ErrSum} {
		if told[e] < 20 {
			t.Errorf("%v comes %d times", e, told[e])
		}
	}
}

// TestP2304Random: random bytes, behind what a state begins with.
func TestP2304Random(t *testing.T) {
	r := rand.New(rand.NewSource(23040))
	begin := written(t, sample())
	for range 20000 {
		more := make([]byte, r.Intn(1<<r.Intn(8)))
		r.Read(more)
		wantLike(t, "random", cat(begin[:r.Intn(len(begin)+1)], more))
	}
}

// TestP2305Again: Read of Write is the state, Write of Read the bytes.
func TestP2305Again(t *testing.T) {
	r := rand.New(rand.NewSource(2305))
	all := append(states(), greatest())
	for range 300 {
		all = append(all, random(r))
	}
	for i, s := range all {
		b := written(t, s)
		again, at, e := state.Read(b)
		if at != 0 || e != api.OK || !sameState(again, s) {
			t.Errorf("%d: Read of Write: %d, %v", i, at, e)
		}
		if c := written(t, again); !bytes.Equal(b, c) {
			t.Errorf("%d: Write of Read: other bytes", i)
		}
		if e := state.Check(again); e != api.OK {
			t.Errorf("%d: what is read is not in form", i)
		}
	}
}

// TestP2305Bytes: Write of Read of bytes that Read takes, which no Write made.
func TestP2305Bytes(t *testing.T) {
	r := rand.New(rand.NewSource(23050))
	taken := 0
	for range 4000 {
		b := wantedBytes(random(r))
		for range 3 {
			b[r.Intn(len(b))] ^= 1 << r.Intn(8)
		}
		b = summed(b[:len(b)-4])
		s, _, e := state.Read(b)
		if e != api.OK {
			continue
		}
		taken++
		if again := written(t, s); !bytes.Equal(again, b) {
			t.Errorf("% x, of % x", again, b)
		}
	}
	if taken < 500 {
		t.Errorf("only %d are taken", taken)
	}
}
