package disk_test

import (
	"fmt"
	"slices"
	"testing"

	"pupil/api"
)

// begun is a script behind which there are the files a and b, fast, and c, which is not; and works of names, and of bytes.
const begun = "W a one; W b two; F a; F b; S; W c x; A a y; R b d; W b z"

// steps are lines that are steps behind it, of each of the six calls.
var steps = []string{"W a new", "W n new", "W c", "A a new", "A n new", "A a", "F a", "F c", "R a n", "R a c", "R a a", "D a", "D c", "S"}

// refused are lines that are refused behind it, for want of a name, a file or room.
var refused = []string{"W A x", "A A x", "F A", "R A a", "R a A", "D A", "F n", "R n a", "R n n", "D n", "W a 1234567890123456789", "A a 1234567890123456789", "W n 1234567890123456789", "A n 1234567890123456789"}

// TestP2404Fuse: the power fails behind as many steps as were told; the step at which it fails is done.
func TestP2404Fuse(t *testing.T) {
	for n := range 20 {
		d, p := played(t, 8, 30, begun), plainOf(8, 30)
		play(t, p, begun)
		wantError(t, "Fuse", d.Fuse(n), api.OK)
		for i := range n {
			if !d.On() {
				t.Fatalf("a fuse of %d: no power behind %d steps", n, i)
			}
			line := []string{"S", "W a x", "F a", "R a n", "R n a", "A a y", "D b", "W b"}[i%8]
			play(t, p, line)
			play(t, d, line)
		}
		if d.On() {
			t.Errorf("a fuse of %d: power", n)
		}
		wantError(t, "one more", d.Sync(), api.ErrOff)
		wantPending(t, "all steps are done", d, pending(p))
		keep := slices.Repeat([]int{5}, 30)
		d.Crash(keep)
		p.Crash(keep)
		both{d, p}.compare(t, []string{fmt.Sprint("Fuse ", n)})
	}
	for _, n := range []int{1000, 1 << 32, highest - 1, highest} {
		d := played(t, 3, 10, "W a x")
		wantError(t, "Fuse", d.Fuse(n), api.OK)
		for range 999 {
			play(t, d, "S")
		}
		if !d.On() {
			t.Errorf("a fuse of %d: no power", n)
		}
	}
	for _, n := range []int{-1, -2, -1 << 32, lowest + 1, lowest} {
		d := played(t, 3, 10, "W a x")
		wantStill(t, "Fuse", d, api.ErrArg, func() api.Errno { return d.Fuse(n) })
	}
}

// TestP2404Steps: each of the six calls is a step, whatever it does; it is done.
func TestP2404Steps(t *testing.T) {
	for _, line := range steps {
		d, p := played(t, 8, 30, begun+"; Z 2"), plainOf(8, 30)
		play(t, d, line)
		if !d.On() {
			t.Errorf("%s: two steps", line)
		}
		d = played(t, 8, 30, begun+"; Z 1")
		play(t, d, line)
		if d.On() {
			t.Errorf("%s: no step", line)
		}
		play(t, p, begun+"; "+line)
		wantPending(t, line, d, pending(p))
		keep := slices.Repeat([]int{9}, 20)
		d.Crash(keep)
		p.Crash(keep)
		both{d, p}.compare(t, []string{line})
	}
}

// TestP2404None: Read, List, Free, On, Pending and Fuse are no steps; what is refused is none.
func TestP2404None(t *testing.T) {
	d := played(t, 8, 20, begun+"; Z 1")
	for range 50 {
		d.Read("a")
		d.Read("none")
		d.Read("A")
		d.List()
		d.Free()
		d.On()
		d.Pending()
		d.Fuse(-1)
		for _, line := range refused {
			if e := tell(d, line); e == api.OK {
				t.Fatalf("%s: %v", line, e)
			}
		}
	}
	for range 50 {
		play(t, d, "Z 1")
	}
	if !d.On() {
		t.Error("no power")
	}
	play(t, d, "S")
	if d.On() {
		t.Error("power")
	}
	for _, line := range refused {
		d := played(t, 8, 20, begun)
		e := tell(d, line)
		wantStill(t, line, d, e, func() api.Errno { return tell(d, line) })
		d = played(t, 8, 20, begun+"; Z 1")
		tell(d, line)
		if !d.On() {
			t.Errorf("%s is a step", line)
		}
	}
	// A crash is none: it takes the fuse away.
	d = played(t, 8, 20, begun+"; Z 1; C; S; S")
	if !d.On() {
		t.Error("no power")
	}
}

// TestP2404Anew: a new fuse takes the place of the old one, longer or shorter, burnt down or not.
func TestP2404Anew(t *testing.T) {
	for old := 1; old < 6; old++ {
		for burnt := range old {
			for n := range 8 {
				d := made(t, 3, 10)
				wantError(t, "Fuse", d.Fuse(old), api.OK)
				for range burnt {
					play(t, d, "S")
				}
				wantError(t, "Fuse", d.Fuse(n), api.OK)
				for i := range n {
					if !d.On() {
						t.Errorf("%d of %d, then %d: no power behind %d", burnt, old, n, i)
					}
					play(t, d, "S")
				}
				if d.On() {
					t.Errorf("%d of %d, then %d: power", burnt, old, n)
				}
			}
		}
	}
	// One that can't be leaves the old one.
	d := played(t, 3, 10, "Z 2; S")
	wantError(t, "Fuse(-1)", d.Fuse(-1), api.ErrArg)
	play(t, d, "S")
	if d.On() {
		t.Error("power")
	}
}

// TestP2404Off: what each call answers without power; nothing has changed when it is back.
func TestP2404Off(t *testing.T) {
	for _, script := range []string{"", begun, begun + "; S; F a; F b; F c; F d"} {
		d, p := played(t, 8, 30, script+"; Z 0"), plainOf(8, 30)
		play(t, p, script)
		for _, line := range slices.Concat(steps, []string{"F n", "D n", "R n a", "W n 1234567890123456789012345678901", "Z 0", "Z 1", "Z 5"}) {
			wantStill(t, line, d, api.ErrOff, func() api.Errno { return tell(d, line) })
		}
		wantError(t, "Fuse", d.Fuse(highest), api.ErrOff)
		wantError(t, "Fuse", d.Fuse(-1), api.ErrArg)
		for _, name := range []string{"a", "b", "none"} {
			wantError(t, "Read", beside(d.Read(name)), api.ErrOff)
		}
		wantError(t, "Read", beside(d.Read("")), api.ErrName)
		if d.On() || len(d.List()) != 0 {
			t.Error(look(d))
		}
		wantFree(t, "no power", d, 0, 0)
		wantPending(t, "no power", d, pending(p))
		keep := []int{2, 0, 1, 1, 1, 1}
		d.Crash(keep)
		p.Crash(keep)
		both{d, p}.compare(t, []string{script})
	}
}

// TestP2404Back: only a crash brings the power back, and it takes the fuse away, one that burns too.
func TestP2404Back(t *testing.T) {
	for _, fuse := range []string{"Z 0", "Z 1; S", "Z 2; W a x; S", "Z 3; S; S; S", "Z 1", "Z 5; S"} {
		d := played(t, 3, 10, fuse)
		if tell(d, "Z 1"); d.On() != (fuse == "Z 1" || fuse == "Z 5; S") {
			t.Errorf("%s: %v", fuse, d.On())
		}
		d.Crash(nil)
		for range 100 {
			if !d.On() {
				t.Fatalf("%s: no power", fuse)
			}
			play(t, d, "S; W a x; F a")
		}
		play(t, d, "Z 1; S")
		if d.On() {
			t.Errorf("%s: a fuse behind a crash is none", fuse)
		}
	}
}
