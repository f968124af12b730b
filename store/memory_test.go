package store_test

import (
	"bytes"
	"fmt"
	"math/rand"
	"slices"
	"sync"
	"testing"

	"pupil/api"
	"pupil/disk"
	"pupil/store"
)

// roomy lays a list into a longer one, with something ahead of it and room behind it; the longer one is told besides.
func roomy[T any](l []T, filler T) (laid, full []T) {
	full = slices.Repeat([]T{filler}, len(l)+40)
	copy(full[5:], l)
	return full[5 : 5+len(l)], full
}

// spoil writes over a list and its spare room.
func spoil[T any](l []T, other T) {
	l = l[:cap(l)]
	for i := range l {
		l[i] = other
	}
}

// TestP2507Given: bytes that are handed in are not changed, what stands about them neither; what is done to them later turns nothing. Whatever Save answers.
func TestP2507Given(t *testing.T) {
	r := rand.New(rand.NewSource(2507))
	for range 400 {
		files, room := oneOf(r, 1, 3, 12), oneOf(r, 30, 100, 2000)
		d, e := made(t, files, room), made(t, files, room)
		var row []line
		for range 30 {
			l := anyPromised(r, len(d.Pending()))
			if l.kind == doSave && len(l.b) > 100 {
				l.b = l.b[:100]
			}
			row = append(row, l)
			want := plain.tell(e, l)
			laid, full := roomy(l.b, '#')
			before := bytes.Clone(full)
			given := l
			given.b = laid
			if got := built.tell(d, given); got != want {
				t.Fatalf("%q, want %q, behind %v", got, want, row)
			}
			if !bytes.Equal(full, before) {
				t.Fatalf("%q, then %q", before, full)
			}
			spoil(full, '!')
			if look(d) != look(e) {
				t.Fatalf("spoilt: %s, want %s", look(d), look(e))
			}
		}
	}
}

// TestP2507Answered: no two answers share memory, none shares any with the disk, spare room included.
func TestP2507Answered(t *testing.T) {
	for _, b := range []string{"", "x", "some bytes that are more than twenty", string(make([]byte, 5000))} {
		d := made(t, 64, 200000)
		for n := range 20 {
			wantError(t, "Save", store.Save(d, n, []byte(b)), api.OK)
		}
		before := look(d)
		_, one, _ := store.Load(d)
		_, other, _ := store.Load(d)
		file, _ := d.Read("ck-19")
		few, again := store.List(d), store.List(d)
		spoil(one, '!')
		spoil(few, -5)
		if string(other) != b || string(file) != string(whole(19, b)) || len(again) != 20 || again[7] != 7 {
			t.Errorf("an answer hangs on another one: %.40q, %.40q, %v", other, file, again)
		}
		_ = append(other, "behind"...)
		_ = append(again, 77)
		if after := look(d); after != before {
			t.Errorf("%.60q: the disk hangs on its answers", b)
		}
		wantLoad(t, "spoilt", d, 19, b, api.OK)
		wantList(t, "spoilt", d, 0, 1, 2, 3, 4, 5, 6, 7, 8, 9, 10, 11, 12, 13, 14, 15, 16, 17, 18, 19)
	}
}

// TestP2507Pieces: pieces of one list that are handed in at several calls, an answer that is handed in again.
func TestP2507Pieces(t *testing.T) {
	full := []byte("0123456789")
	d := roomyDisk(t)
	for n, b := range [][]byte{full[:4], full[2:6], full[:3:3], full[3:3], full} {
		wantError(t, "pieces", store.Save(d, n, b), api.OK)
	}
	_, b, _ := store.Load(d)
	wantError(t, "again", store.Save(d, 4, b), api.OK)
	wantError(t, "again", store.Save(d, 5, b[2:5]), api.OK)
	spoil(b, '!')
	spoil(full, '!')
	for n, want := range []string{"0123", "2345", "012", "", "0123456789", "234"} {
		wantFile(t, "pieces", d, fmt.Sprint("ck-", n), whole(n, want))
	}
}

// TestP2507Nil: no bytes and none handed in are the same.
func TestP2507Nil(t *testing.T) {
	d, e := roomyDisk(t), roomyDisk(t)
	wantError(t, "nil", store.Save(d, 5, nil), api.OK)
	wantError(t, "none", store.Save(e, 5, []byte{}), api.OK)
	if look(d) != look(e) {
		t.Errorf("%s, and %s", look(d), look(e))
	}
}

// anyScript tells a script of all calls, and what it is told on a disk of its own.
func anyScript(t *testing.T, r *rand.Rand, length int) (script []line, told []string) {
	d := made(t, 8, 400)
	for range length {
		l := anyLine(r, r.Intn(kinds), len(d.Pending()))
		if !d.On() && r.Intn(2) == 0 {
			l = anyLine(r, doCrash, len(d.Pending()))
		}
		script = append(script, l)
		told = append(told, built.heard(d, []line{l})...)
	}
	return script, told
}

// TestP2507Again: the same calls tell the same again on another disk, whatever others are told beside it, from several goroutines at once too.
func TestP2507Again(t *testing.T) {
	r := rand.New(rand.NewSource(2))
	var group sync.WaitGroup
	for range 40 {
		script, want := anyScript(t, r, 60)
		for range 3 {
			d := made(t, 8, 400)
			group.Go(func() {
				if got := built.heard(d, script); !slices.Equal(got, want) {
					t.Errorf("%v tells something else again", script)
				}
			})
		}
	}
	group.Wait()
}

// TestP2507Apart: disks are apart from each other: told by turns, each tells what it tells alone.
func TestP2507Apart(t *testing.T) {
	r := rand.New(rand.NewSource(3))
	for range 40 {
		var scripts [3][]line
		var alone [3][]string
		var disks [3]*disk.Disk
		for k := range 3 {
			scripts[k], alone[k] = anyScript(t, r, 50)
			disks[k] = made(t, 8, 400)
		}
		for i := range 50 {
			for k, d := range disks {
				got := built.heard(d, scripts[k][i:i+1])
				if want := alone[k][4*i : 4*i+4]; !slices.Equal(got, want) {
					t.Fatalf("disk %d: %q, want %q", k, got, want)
				}
			}
		}
	}
}
