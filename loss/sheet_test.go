package loss

import (
	"testing"

	"pupil/api"
)

// TestSheet: a sheet keeps its first refusal, and puts nothing behind it.
func TestSheet(t *testing.T) {
	s := begin(api.Tape{Nodes: []api.Node{{Op: api.OpInput, Rows: 1, Cols: 1, Width: 64}}}, 0)
	if n := s.op(api.OpNeg, 0); n != 1 || s.err != nil {
		t.Fatalf("%d, %v", n, s.err)
	}
	s.refuse(api.OK)
	if s.err != nil {
		t.Fatal(s.err)
	}
	s.refuse(api.ErrArg)
	s.refuse(api.ErrShape)
	if n := s.op(api.OpNeg, 0); n != 0 || len(s.draft.Tape().Nodes) != 2 || s.shape(0) != (api.Shape{}) {
		t.Errorf("%d is put, behind %v", n, s.err)
	}
	if s.err.Error() != "refused with error 1" {
		t.Errorf("%v", s.err)
	}
	if made, n, e := s.told(); len(made.Nodes) != 0 || n != 0 || e != api.ErrArg {
		t.Errorf("%v, %d, %v", made, n, e)
	}
}
