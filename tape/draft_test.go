package tape_test

import (
	"math/rand"
	"reflect"
	"testing"

	"pupil/api"
	"pupil/tape"
)

// TestDraft: a draft that grows tells what Put tells, node by node, and the shapes that Check tells.
func TestDraft(t *testing.T) {
	r := rand.New(rand.NewSource(14))
	for seed := range int64(30) {
		full := grown(seed, 30)
		shapes, _ := tape.Check(full)
		begun := r.Intn(len(full.Nodes))
		d, e := tape.Begin(api.Tape{Nodes: full.Nodes[:begun]})
		if e != api.OK {
			t.Fatalf("Begin: %v", e)
		}
		for i := begun; i < len(full.Nodes); i++ {
			if !sameTape(d.Tape(), api.Tape{Nodes: full.Nodes[:i]}) {
				t.Fatalf("another tape with %d nodes: %v", i, d.Tape())
			}
			for node := -2; node < i+2; node++ {
				got, e := d.Shape(node)
				if ok := node >= 0 && node < i; ok && (e != api.OK || got != shapes[node]) || !ok && (e != api.ErrNode || got != (api.Shape{})) {
					t.Errorf("Shape(%d) of %d nodes: %v, %v", node, i, got, e)
				}
			}
			wrong := spoilt(full, r).Nodes[i]
			_, number, want := tape.Put(d.Tape(), wrong)
			if want != api.OK {
				if got, e := d.Put(wrong); e != want || got != number {
					t.Errorf("Put(%v): %d, %v; want %v", wrong, got, e, want)
				}
			}
			if got, e := d.Put(full.Nodes[i]); e != api.OK || got != i {
				t.Fatalf("Put(%v): %d, %v", full.Nodes[i], got, e)
			}
		}
	}
}

// TestDraftWrong: what Begin and Put of a draft refuse; a number that was refused is free, one that stands is not.
func TestDraftWrong(t *testing.T) {
	for _, made := range []api.Tape{behind(net(), takes(api.OpNeg, 9), api.Node{}), long(1025), tapeOf(api.Node{})} {
		_, f := tape.Check(made)
		if d, e := tape.Begin(made); e != f.Err || d != nil {
			t.Errorf("Begin(%v): %v; want %v", made, e, f.Err)
		}
	}
	d, _ := tape.Begin(tapeOf(input(3, 1, 1, 64)))
	for _, x := range []struct {
		n    api.Node
		want api.Errno
	}{
		{input(5, 1, 1, 16), api.ErrWidth}, {input(5, 1, 1, 64), api.OK}, {input(5, 1, 1, 64), api.ErrInput}, {input(3, 1, 1, 64), api.ErrInput},
		{param(5, 0, 1, 64), api.ErrShape}, {param(5, 1, 1, 64), api.OK}, {param(5, 1, 1, 64), api.ErrParam}, {takes(api.OpNeg, 3), api.ErrNode},
	} {
		if _, e := d.Put(x.n); e != x.want {
			t.Errorf("Put(%v): %v; want %v", x.n, e, x.want)
		}
	}
	d, _ = tape.Begin(long(1023))
	for _, want := range []api.Errno{api.OK, api.ErrLong, api.ErrLong} {
		if _, e := d.Put(takes(api.OpNeg, 0)); e != want {
			t.Errorf("behind 1023 nodes: %v; want %v", e, want)
		}
	}
}

// TestDraftMemory: a draft changes nothing that it was handed, nor spare room; the tapes that it tells share nothing with that, nor with one another.
func TestDraftMemory(t *testing.T) {
	r, more := guarded(net()), guarded(tapeOf(constant(1, 3, 64, 4, 5, 6), takes(api.OpGlueCols, 0, 0)))
	before, lists := r.whole()
	moreBefore, moreLists := more.whole()
	d, _ := tape.Begin(r.tape)
	first := d.Tape()
	for _, n := range more.tape.Nodes {
		if _, e := d.Put(n); e != api.OK {
			t.Fatal(e)
		}
	}
	second, third := d.Tape(), d.Tape()
	for _, told := range []api.Tape{first, second} {
		answer{put: told}.spoil()
	}
	now, nowLists := r.whole()
	moreNow, moreNowLists := more.whole()
	if !sameTape(now, before) || !reflect.DeepEqual(nowLists, lists) || !sameTape(moreNow, moreBefore) || !reflect.DeepEqual(moreNowLists, moreLists) {
		t.Error("what was handed in has changed")
	}
	r.spoil()
	more.spoil()
	if !sameTape(third, behind(net(), constant(1, 3, 64, 4, 5, 6), takes(api.OpGlueCols, 0, 0))) {
		t.Errorf("a tape shares memory with another, or with what was handed in: %v", third)
	}
}
