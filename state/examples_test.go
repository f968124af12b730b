package state_test

import (
	"bytes"
	"testing"

	"pupil/api"
	"pupil/state"
)

// TestExamples: the chapter's table.
func TestExamples(t *testing.T) {
	want := cat([]byte{0x70, 0x73, 0x74, 1}, make([]byte, 40), make([]byte, 4), []byte{0xB6, 2, 0, 0})
	if b, e := state.Write(api.State{}); e != api.OK || !bytes.Equal(b, want) || 0x02B6 != 694 {
		t.Errorf("% x, %v", b, e)
	}
	if s, at, e := state.Read(nil); at != 0 || e != api.ErrEnd || !sameState(s, api.State{}) {
		t.Errorf("%d, %v", at, e)
	}
	if s, at, e := state.Read([]byte{0x70, 0x73, 0x75, 1}); at != 2 || e != api.ErrBytes || !sameState(s, api.State{}) {
		t.Errorf("%d, %v", at, e)
	}
	one := vals(1, 1, 64, 1)
	for i, s := range []api.State{
		{Step: -1},
		{Params: []api.Matrix{laid(0, 1, 64)}},
		{Params: []api.Matrix{laid(1, 1, 64, api.Inf)}},
		{Params: func() (l []api.Matrix) {
			for range 65 {
				l = append(l, one)
			}
			return l
		}()},
	} {
		if e := state.Check(s); e != api.ErrState {
			t.Errorf("%d: %v", i, e)
		}
	}
}
