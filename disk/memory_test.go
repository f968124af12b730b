package disk_test

import (
	"bytes"
	"fmt"
	"math/rand"
	"runtime"
	"slices"
	"strings"
	"sync"
	"testing"

	"pupil/api"
	"pupil/disk"
)

// roomy lays a list into a longer one, with something ahead of it and room behind it; the longer one is told besides.
func roomy[T any](l []T, filler T) (laid, full []T) {
	full = slices.Repeat([]T{filler}, len(l)+12)
	copy(full[5:], l)
	return full[5 : 5+len(l)], full
}

// spoil writes over a list and its spare room.
func spoil[T any](l []T, other T) {
	l = l[:cap(l)]
	for i := range l {
		l[i] = other
	}
}

// TestP2412Given: bytes and keeps that are handed in are not changed, what stands about them neither; what is done to them later turns nothing.
func TestP2412Given(t *testing.T) {
	r := rand.New(rand.NewSource(2412))
	for range 300 {
		x := bothOf(t, 4, 60)
		var given []func() bool // Whether what was handed in is as it was; then it is spoilt.
		hand := func(b []byte) []byte {
			laid, full := roomy(b, '#')
			before := bytes.Clone(full)
			given = append(given, func() bool {
				same := bytes.Equal(full, before)
				spoil(full, '!')
				return same
			})
			return laid
		}
		for range 40 {
			name := []string{"a", "b", "c"}[r.Intn(3)]
			b := []byte("vwxyz"[:r.Intn(6)])
			switch r.Intn(4) {
			case 0:
				x.p.Write(name, b)
				x.d.Write(name, hand(b))
			case 1:
				x.p.Append(name, b)
				x.d.Append(name, hand(b))
			case 2:
				line := anyStep(r)
				tell(x.p, line)
				tell(x.d, line)
			case 3:
				if r.Intn(4) > 0 {
					break
				}
				keep := anyKeep(r, len(x.p.works))
				x.p.Crash(keep)
				laid, full := roomy(keep, 77)
				before := slices.Clone(full)
				x.d.Crash(laid)
				if !slices.Equal(full, before) {
					t.Fatalf("%v, then %v", before, full)
				}
				spoil(full, -5)
			}
			if r.Intn(3) == 0 {
				for _, same := range given {
					if !same() {
						t.Fatal("bytes that were handed in are changed")
					}
				}
				given = nil
			}
			x.compare(t, nil)
		}
	}
}

// answers are all lists that a disk tells.
func answers(d *disk.Disk) (read [][]byte, list []string, works []api.Work) {
	for _, name := range d.List() {
		b, _ := d.Read(name)
		read = append(read, b)
	}
	return read, d.List(), d.Pending()
}

// TestP2412Answered: no two answers share memory, none shares any with the disk, spare room included.
func TestP2412Answered(t *testing.T) {
	r := rand.New(rand.NewSource(1))
	for range 300 {
		x := bothOf(t, 4, 60)
		for range 40 {
			line := anyStep(r)
			if r.Intn(10) == 0 {
				line = crashLine(anyKeep(r, len(x.p.works)))
			}
			tell(x.p, line)
			tell(x.d, line)
			read, list, works := answers(x.d)
			again, names, pending := answers(x.d)
			want := fmt.Sprint(again, names, pending)
			for _, b := range read {
				spoil(b, '!')
			}
			spoil(list, "spoilt")
			spoil(works, api.Work{Kind: -1, Name: "spoilt", To: "spoilt", Len: -1})
			if got := fmt.Sprint(again, names, pending); got != want {
				t.Fatalf("an answer hangs on another one: %s, want %s", got, want)
			}
			x.compare(t, []string{line})
			for _, b := range again {
				_ = append(b, "behind"...)
			}
			_ = append(names, "behind")
			_ = append(pending, api.Work{Kind: -1})
			x.compare(t, []string{line})
		}
	}
}

// TestP2412Pieces: pieces of one list that are handed in at several places, an answer that is handed in again.
func TestP2412Pieces(t *testing.T) {
	full := []byte("0123456789")
	d := made(t, 4, 60)
	for _, e := range []api.Errno{d.Write("a", full[:4]), d.Append("a", full[2:6]), d.Write("b", full[:3:3]), d.Append("b", full[3:3]), d.Append("b", full[3:5])} {
		wantError(t, "pieces", e, api.OK)
	}
	wantFiles(t, "pieces", d, "a:01232345 b:01234")
	b, _ := d.Read("a")
	wantError(t, "again", d.Append("a", b[2:]), api.OK)
	wantError(t, "again", d.Write("b", b), api.OK)
	wantError(t, "again", d.Append("b", b[:1]), api.OK)
	wantFiles(t, "again", d, "a:01232345232345 b:012323450")
	spoil(b, '!')
	spoil(full, '!')
	wantFiles(t, "spoilt", d, "a:01232345232345 b:012323450")
	keep := slices.Repeat([]int{9}, 10)
	play(t, d, "F a; S")
	d.Crash(keep)
	wantFiles(t, "kept", d, "a:01232345232345 b:012323450")
}

// TestP2412Two: what is told to both pictures of a file is apart: what comes behind its bytes in the one is not seen in the other.
func TestP2412Two(t *testing.T) {
	for _, n := range []int{1, 3, 8, 9, 33, 100} {
		d := made(t, 2, 500)
		old := strings.Repeat("o", n)
		play(t, d, "W a "+old+"; F a; S; A a xy; A a zw")
		wantFiles(t, "appended", d, "a:"+old+"xyzw")
		d.Crash([]int{0, 2})
		wantFiles(t, "the second", d, "a:"+old+"zw")
		play(t, d, "A a 1; A a 2; F a; A a 3; A a 4; W a; A a 5")
		wantFiles(t, "anew", d, "a:5")
		d.Crash([]int{0, 1})
		wantFiles(t, "not the third", d, "a:"+old+"zw124")
		play(t, d, "A a 6; C; A a 7; C 0 0; A a 8; C 1")
		wantFiles(t, "lost ones", d, "a:"+old+"zw1248")
	}
}

// rowOf makes a script of all calls by a disk.
func rowOf(r *rand.Rand, calls int) []string {
	var row []string
	for range calls {
		line := anyStep(r)
		switch r.Intn(15) {
		case 0:
			line = crashLine(anyKeep(r, 6))
		case 1:
			line = fmt.Sprint("Z ", r.Intn(9))
		}
		row = append(row, line)
	}
	return row
}

// heard tells all that is told on the way of a script.
func heard(m machine, row []string) []string {
	var l []string
	for _, line := range row {
		l = append(l, fmt.Sprint(tell(m, line)), look(m))
	}
	return l
}

// TestP2412Again: the same calls tell the same again on another disk, whatever others are told beside it, from several goroutines at once too.
func TestP2412Again(t *testing.T) {
	r := rand.New(rand.NewSource(2))
	var group sync.WaitGroup
	for range 30 {
		row := rowOf(r, 100)
		want := heard(made(t, 4, 30), row)
		for range 3 {
			d := made(t, 4, 30)
			group.Go(func() {
				if got := heard(d, row); !slices.Equal(got, want) {
					t.Errorf("%q tells something else again", row)
				}
			})
		}
	}
	group.Wait()
}

// TestP2412Apart: disks are apart from each other: told by turns, each tells what it tells alone.
func TestP2412Apart(t *testing.T) {
	r := rand.New(rand.NewSource(3))
	for range 30 {
		rows := [][]string{rowOf(r, 60), rowOf(r, 60), rowOf(r, 60)}
		disks := []*disk.Disk{made(t, 4, 30), made(t, 4, 30), made(t, 2, 9)}
		alone := [][]string{heard(made(t, 4, 30), rows[0]), heard(made(t, 4, 30), rows[1]), heard(made(t, 2, 9), rows[2])}
		for i := range 60 {
			for k, d := range disks {
				got := heard(d, rows[k][i:i+1])
				if !slices.Equal(got, alone[k][2*i:2*i+2]) {
					t.Fatalf("disk %d: %q, want %q", k, got, alone[k][2*i:2*i+2])
				}
			}
		}
	}
}

// TestP2412LetGo: bytes that nothing can bring back are not kept, though their works are told: behind a sync a file that has been removed.
func TestP2412LetGo(t *testing.T) {
	held := func() uint64 {
		var m runtime.MemStats
		runtime.GC()
		runtime.ReadMemStats(&m)
		return m.HeapAlloc
	}
	d, great := made(t, 2, api.MaxDisk), make([]byte, api.MaxDisk)
	before := held()
	for range 16 {
		wantError(t, "Write", d.Write("a", great), api.OK)
		play(t, d, "D a; S")
	}
	if more := held() - before; more > 4*api.MaxDisk && more < 1<<62 {
		t.Errorf("%d bytes more", more)
	}
	wantPending(t, "told", d, strings.Repeat("1 a> 4194304, ", 15)+"1 a> 4194304")
	runtime.KeepAlive(great)
	play(t, d, "W a x; C 1 1 1 1 1 1 1 1 1 1 1 1 1 1 1 1 1 1")
	wantFiles(t, "kept", d, "a:x")
}
