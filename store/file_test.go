package store_test

import (
	"bytes"
	"encoding/hex"
	"fmt"
	"slices"
	"strings"
	"testing"

	"pupil/api"
	"pupil/disk"
	"pupil/store"
)

// TestP2501Bytes: the bytes of a file that Save wrote, told by hand.
func TestP2501Bytes(t *testing.T) {
	const head = "70 63 6b 01"
	for _, x := range []struct {
		n          int
		name, b    string
		want, last string
	}{
		{0, "ck-0", "", "00 00 00 00 00 00 00 00  00 00 00 00", "7b 02 00 00"},
		{1, "ck-1", "", "01 00 00 00 00 00 00 00  00 00 00 00", "80 02 00 00"},
		{9, "ck-9", "", "09 00 00 00 00 00 00 00  00 00 00 00", "a8 02 00 00"},
		{10, "ck-10", "", "0a 00 00 00 00 00 00 00  00 00 00 00", "ad 02 00 00"},
		{0, "ck-0", "x", "00 00 00 00 00 00 00 00  01 00 00 00  78", "80 0a 00 00"},
		{258, "ck-258", "\x00", "02 01 00 00 00 00 00 00  01 00 00 00  00", "98 02 00 00"},
		{9, "ck-9", "\xff", "09 00 00 00 00 00 00 00  01 00 00 00  ff", "a4 13 00 00"},
		{1 << 40, "ck-1099511627776", "", "00 00 00 00 00 01 00 00  00 00 00 00", "85 02 00 00"},
		{1<<40 - 1, "ck-1099511627775", "abc", "ff ff ff ff ff 00 00 00  03 00 00 00  61 62 63", "2d 3a 00 00"},
	} {
		d := roomyDisk(t)
		wantError(t, x.name, store.Save(d, x.n, []byte(x.b)), api.OK)
		want, err := hex.DecodeString(strings.ReplaceAll(head+x.want+x.last, " ", ""))
		if err != nil {
			t.Fatal(err)
		}
		wantFile(t, x.name, d, x.name, want)
		wantNames(t, x.name, d, x.name)
	}
}

// TestP2501Many: the bytes of greater files: a length of several bytes, a sum that goes round.
func TestP2501Many(t *testing.T) {
	for _, size := range []int{2, 255, 256, 257, 65535, 65536, 1 << 20, api.MaxDisk - frame} {
		for _, fill := range []string{"\x00", "\xff", "abc"} {
			d := made(t, 2, api.MaxDisk)
			b := strings.Repeat(fill, size)[:size]
			n := 1<<32 + size
			wantError(t, "Save", store.Save(d, n, []byte(b)), api.OK)
			f, e := d.Read("ck-" + fmt.Sprint(n))
			if e != api.OK || !bytes.Equal(f, whole(n, b)) {
				t.Errorf("%d of %q: other bytes, %v", size, fill, e)
			}
			if m, c, e := store.Load(d); m != n || string(c) != b || e != api.OK {
				t.Errorf("%d of %q: Load tells %d, %d bytes, %v", size, fill, m, len(c), e)
			}
		}
	}
}

// TestP2501Numbers: whatever n is, the file of the name of its digits is what Save writes, and no other one.
func TestP2501Numbers(t *testing.T) {
	for k := range 41 {
		for _, n := range []int{1<<k - 1, 1 << k, min(1<<k+1, 1<<40), min(3<<k/2, 1<<40)} {
			d := roomyDisk(t)
			wantError(t, "Save", store.Save(d, n, []byte("b")), api.OK)
			wantNames(t, "Save", d, fmt.Sprintf("ck-%d", n))
			wantFile(t, "Save", d, fmt.Sprintf("ck-%d", n), whole(n, "b"))
			wantLoad(t, "Save", d, n, "b", api.OK)
		}
	}
}

// wantName wants a name to be that of the checkpoint n, or, of a number below 0, of none: by which file is whole, and by what Clean takes away.
func wantName(t *testing.T, name string, n int) {
	t.Helper()
	d := roomyDisk(t)
	lay(t, d, name, whole(max(n, 0), "b"))
	if n < 0 {
		wantLoad(t, name, d, 0, "", api.ErrNone)
		wantList(t, name, d)
	} else {
		wantLoad(t, name, d, n, "b", api.OK)
		wantList(t, name, d, n)
	}
	wantError(t, name, store.Clean(d, 1), api.OK)
	wantNames(t, name, d, name)
	d.Write(name, []byte("not whole"))
	wantError(t, name, store.Clean(d, 1), api.OK)
	if n < 0 {
		wantNames(t, name, d, name)
	} else {
		wantNames(t, name, d, "")
	}
}

// TestP2501Names: which names are a checkpoint's.
func TestP2501Names(t *testing.T) {
	for _, n := range []int{0, 1, 5, 9, 10, 11, 99, 100, 101, 1<<31 - 1, 1 << 31, 1<<32 + 5, 1<<40 - 1, 1 << 40} {
		wantName(t, fmt.Sprintf("ck-%d", n), n)
	}
	for _, name := range []string{
		"ck-", "ck-00", "ck-01", "ck-05", "ck-000", "ck-010", "ck-01099511627776", "ck-" + strings.Repeat("0", 29),
		"ck--1", "ck--0", "ck-1-", "ck-1-1", "ck--", "ck-.1", "ck-1.", "ck-1.0", "ck-_1", "ck-1_", "ck-1_0", "ck-.", "ck-_",
		"ck-a", "ck-1a", "ck-a1", "ck-1a1", "ck-0x1", "ck-1e3", "ck-z", "ck-z0",
		"ck", "c", "k", "ck1", "ck_1", "ck.1", "xck-1", "-ck-1", "1ck-1", "0ck-1", "kc-1", "cck-1", "ckk-1", "ck-ck-1", "ck-1ck-1", "1", "0", "-1", "-", "k-1", "c-1", "ck-new", "neww",
		"ck-1099511627777", "ck-1099511627786", "ck-10995116277760", "ck-9999999999999", "ck-2199023255552", "ck-4294967296000000",
		"ck-9223372036854775807", "ck-9223372036854775808", "ck-9223372036854775809",
	} {
		wantName(t, name, -1)
	}
}

// TestP2501Round: names with so many digits that no int holds the number: none of them is what it would be if it went round.
func TestP2501Round(t *testing.T) {
	for digits, round := range map[string]int{
		"18446744073709551616":          0,
		"18446744073709551617":          1,
		"18446744073709551621":          5,
		"18446745173221179392":          1 << 40,
		"36893488147419103237":          5,
		"184467440737095516165":         5,
		"79228162514264337593543950341": 5,
		"10000000000000000000000000000": 0,
		"99999999999999999999999999999": 9,
	} {
		name := "ck-" + digits
		for _, n := range []int{round, 0, 1, 5} {
			d := roomyDisk(t)
			lay(t, d, name, whole(n, "b"))
			wantLoad(t, name, d, 0, "", api.ErrNone)
			wantList(t, name, d)
			wantError(t, name, store.Clean(d, 1), api.OK)
			wantNames(t, name, d, name)
		}
		wantName(t, name, -1)
	}
}

// TestP2501EveryName: all names of few characters behind what is ahead, told once more by what the digits of an int are.
func TestP2501EveryName(t *testing.T) {
	known := map[string]int{}
	for n := range 1000 {
		known[fmt.Sprint("ck-", n)] = n
	}
	for size := range 4 {
		each([]byte("0159-._az"), size, func(row []byte) {
			name := "ck-" + string(row)
			n, is := known[name]
			if !is {
				n = -1
			}
			wantName(t, name, n)
		})
	}
}

// wantWhole wants bytes to be, or not to be, those of the whole checkpoint n: b.
func wantWhole(t *testing.T, what string, n int, f []byte, is bool, b string) {
	t.Helper()
	d := made(t, 3, api.MaxDisk)
	name := fmt.Sprint("ck-", n)
	lay(t, d, name, f)
	if !is {
		wantLoad(t, what, d, 0, "", api.ErrNone)
		wantList(t, what, d)
		wantError(t, what, store.Clean(d, 1), api.OK)
		wantNames(t, what, d, "")
		return
	}
	wantLoad(t, what, d, n, b, api.OK)
	wantList(t, what, d, n)
	wantError(t, what, store.Clean(d, 1), api.OK)
	wantNames(t, what, d, name)
}

// wholes are some checkpoints.
var wholes = []struct {
	n int
	b string
}{{0, ""}, {1, "x"}, {9, "\x00\x00"}, {10, "pck\x01"}, {258, "twenty bytes and more"}, {1 << 40, "\xff\xff\xff"}}

// TestP2501Whole: a whole file is whole, the same with one byte changed is not.
func TestP2501Whole(t *testing.T) {
	for _, x := range wholes {
		f := whole(x.n, x.b)
		wantWhole(t, "whole", x.n, f, true, x.b)
		for i := range f {
			for _, turn := range []byte{1, 2, 0x80, 0xff, 0x40} {
				g := slices.Clone(f)
				g[i] ^= turn
				wantWhole(t, fmt.Sprintf("%d: byte %d by %x", x.n, i, turn), x.n, g, false, "")
			}
		}
	}
}

// TestP2501Summed: one byte changed, and the sum mended: of the checkpoint's own bytes that is whole, with these, of all ahead of them it isn't.
func TestP2501Summed(t *testing.T) {
	for _, x := range wholes {
		f := whole(x.n, x.b)
		f = f[:len(f)-4]
		for i := range f {
			g := slices.Clone(f)
			g[i] ^= 0x11
			own := ""
			if i >= 16 {
				own = string(g[16:])
			}
			wantWhole(t, fmt.Sprintf("%d: byte %d, summed", x.n, i), x.n, summed(g), i >= 16, own)
		}
	}
}

// TestP2501Cut: a file that is cut off at its end isn't whole, with something behind it neither; with the sum mended neither.
func TestP2501Cut(t *testing.T) {
	for _, x := range wholes {
		f := whole(x.n, x.b)
		for i := range f {
			wantWhole(t, fmt.Sprintf("%d: cut at %d", x.n, i), x.n, f[:i], false, "")
			if i < len(f)-4 {
				wantWhole(t, fmt.Sprintf("%d: cut at %d, summed", x.n, i), x.n, summed(f[:i]), false, "")
			}
		}
		for _, more := range []string{"\x00", "x", "\x00\x00", "four", "\x00\x00\x00\x00", "twenty bytes and more", string(f), string(f[len(f)-4:])} {
			wantWhole(t, fmt.Sprintf("%d: behind %q", x.n, more), x.n, append(slices.Clone(f), more...), false, "")
			wantWhole(t, fmt.Sprintf("%d: behind %q, summed", x.n, more), x.n, summed(append(slices.Clone(f), more...)), false, "")
			wantWhole(t, fmt.Sprintf("%d: ahead %q", x.n, more), x.n, append([]byte(more), f...), false, "")
		}
	}
	for size := range 40 {
		wantWhole(t, fmt.Sprint("noughts ", size), 0, make([]byte, size), false, "")
	}
}

// TestP2501Other: the right sum over wrong numbers: that of another name, high bytes that are not 0, a length that is too small or too great.
func TestP2501Other(t *testing.T) {
	const mark = "pck\x01"
	for _, b := range []string{"", "b", "some bytes that are more than twenty"} {
		size := uint32(len(b))
		for _, n := range []int{0, 1, 5, 10, 1 << 32, 1 << 40} {
			for _, m := range []uint64{0, 1, 5, 10, 1 << 32, 1 << 40, 1<<40 + 1, 1<<64 - 1, 5 + 1<<8, 5 + 1<<16, 5 + 1<<24, 5 + 1<<32, 5 + 1<<41, 5 + 1<<48, 5 + 1<<56, 5 + 1<<63, 1 << 63, 5 << 56, 0x0500000000000000} {
				wantWhole(t, fmt.Sprintf("%d as %d", m, n), n, form(mark, m, size, b), m == uint64(n), b)
			}
		}
		for _, length := range []uint32{0, 1, size - 1, size + 1, size + 4, size + 16, size + 20, size - 4, size + 1<<8, size + 1<<16, size + 1<<24, size + 1<<31, 1<<31 - 1, 1 << 31, 1<<32 - 1, 1<<32 - 4, 1<<32 - 16, 1<<32 - 20} {
			wantWhole(t, fmt.Sprintf("length %d of %d", length, size), 5, form(mark, 5, length, b), length == size, b)
		}
		for _, m := range []string{"pck\x00", "pck\x02", "Pck\x01", "pst\x01", "\x01kcp", "\x00\x00\x00\x00"} {
			wantWhole(t, fmt.Sprintf("mark %q", m), 5, form(m, 5, size, b), false, "")
		}
	}
}

// TestP2501Swapped: right sums in wrong places, or of other bytes: of the bytes with none ahead, counted from 0, of all with the sum's own.
func TestP2501Swapped(t *testing.T) {
	for _, x := range wholes[1:] {
		f := whole(x.n, x.b)
		head, sum := f[:len(f)-4], slices.Clone(f[len(f)-4:])
		slices.Reverse(sum)
		for what, g := range map[string][]byte{
			"sum turned":   append(slices.Clone(head), sum...),
			"sum of 0":     append(slices.Clone(head), 0, 0, 0, 0),
			"own bytes'":   append(slices.Clone(head), summed([]byte(x.b))[len(x.b):]...),
			"one too many": append(slices.Clone(head), summed(f)[len(f):]...),
			"sum ahead":    append(slices.Clone(f[len(f)-4:]), head...),
			"plain sum":    append(slices.Clone(head), byte(plainSum(head)), byte(plainSum(head)>>8), 0, 0),
		} {
			wantWhole(t, fmt.Sprintf("%d: %s", x.n, what), x.n, g, false, "")
		}
	}
}

func plainSum(f []byte) int {
	sum := 0
	for _, x := range f {
		sum += int(x)
	}
	return sum
}

// grown makes a disk whose file has more bytes than there can be written to any: what made room was lost, what came behind it kept.
func grown(t *testing.T, name string, f []byte) *disk.Disk {
	t.Helper()
	d := made(t, 4, api.MaxDisk)
	first := min(len(f), api.MaxDisk)
	lay(t, d, name, f[:first])
	for rest := f[first:]; len(rest) > 0; {
		some := min(len(rest), api.MaxDisk)
		wantError(t, "Write", d.Write(name, nil), api.OK)
		wantError(t, "Append", d.Append(name, rest[:some]), api.OK)
		d.Crash([]int{0, some})
		rest = rest[some:]
	}
	wantFile(t, "grown", d, name, f)
	return d
}

// TestP2501Great: of a file that is longer than what Save writes the same bytes are asked.
func TestP2501Great(t *testing.T) {
	for _, size := range []int{api.MaxDisk - 20, api.MaxDisk - 19, api.MaxDisk, api.MaxDisk + 1, 2*api.MaxDisk + 5} {
		b := strings.Repeat("great\xff", size/6+1)[:size]
		d := grown(t, "ck-5", whole(5, b))
		if n, c, e := store.Load(d); n != 5 || string(c) != b || e != api.OK {
			t.Errorf("%d bytes: Load tells %d, %d bytes, %v", size, n, len(c), e)
		}
		wantList(t, "great", d, 5)
		f := whole(5, b)
		f[len(f)-9] ^= 1
		d = grown(t, "ck-5", f)
		wantLoad(t, "turned", d, 0, "", api.ErrNone)
		wantList(t, "turned", d)
		d = grown(t, "ck-5", form("pck\x01", 5, uint32(size-1), b))
		wantLoad(t, "too short", d, 0, "", api.ErrNone)
	}
}
