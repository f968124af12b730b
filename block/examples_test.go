package block_test

import (
	"testing"

	"pupil/api"
)

// three is the chapter's tape.
func three() api.Tape {
	return tapeOf(input(0, 1, 2, 64), param(0, 2, 2, 64), param(1, 1, 2, 64))
}

// TestExamples: the chapter's table, line by line.
func TestExamples(t *testing.T) {
	wantPut(t, three(), dense(0, 1, 2), takes(api.OpProduct, 0, 1), takes(api.OpAdd, 3, 2))
	wantPut(t, three(), act(0, api.OpRelu), takes(api.OpRelu, 0))
	wantError(t, three(), act(0, api.OpAdd), api.ErrOp)
	wantError(t, three(), act(3, api.OpRelu), api.ErrNode)
	wantError(t, three(), linear(1, 0), api.ErrShape)
	wantPut(t, three(), pool(0, 2, api.PoolMean),
		numbers(api.OpForm, 1, 2, 0), takes(api.OpSumRows, 3), constant(1, 1, 64, 0x4000000000000000), takes(api.OpDiv, 4, 5), numbers(api.OpForm, 1, 1, 6))
	wantError(t, three(), pool(0, 3, api.PoolMean), api.ErrShape)
	wantError(t, three(), pool(0, 0, 0), api.ErrArg)
	wantPut(t, three(), gather(1, 1, 0), numbers(api.OpCutRows, 1, 2, 1), numbers(api.OpCutRows, 0, 1, 1), takes(api.OpGlueRows, 3, 4))
	wantError(t, three(), gather(1, 2), api.ErrIndex)
	wantError(t, three(), gather(1), api.ErrArg)
	wantPut(t, three(), attend(0, 1, 1),
		takes(api.OpTurn, 1), takes(api.OpProduct, 0, 3), constant(1, 1, 64, 0x3FF6A09E667F3BCD), takes(api.OpDiv, 4, 5), takes(api.OpSoftmax, 6), takes(api.OpProduct, 7, 1))
}
