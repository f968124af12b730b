package state

import (
	"math"

	"pupil/api"
	"pupil/bits"
	"pupil/tensor"
)

// maxSlots is how many matrices a list of Slots has at the most.
const maxSlots = 4

// check gives up, if a state is not in form, or has more bytes than there is room for.
func check(s api.State, room int) {
	wantForm(isStep(s.Step) && isStep(s.Epoch) && isStep(s.Batch))
	wantForm(len(s.Params) <= api.MaxParams && len(s.Slots) <= api.MaxParams)
	checkMatrices(s.Params)
	for _, l := range s.Slots {
		wantForm(len(l) <= maxSlots)
		checkMatrices(l)
	}
	want(size(s) <= room, fault{err: api.ErrLong})
}

func wantForm(holds bool) { want(holds, fault{err: api.ErrState}) }

func checkMatrices(l []api.Matrix) {
	for _, m := range l {
		wantForm(tensor.Check(m) == api.OK)
		for _, b := range m.Bits {
			wantForm(isFinite(b, m.Width))
		}
	}
}

// isStep tells whether a number can be a state's Step, Epoch or Batch.
func isStep(n int) bool { return n >= 0 && n <= api.MaxStep }

// isFinite tells whether bits of a width are those of a finite float.
func isFinite(b, width int) bool {
	f := bits.Float(b)
	if width == 32 {
		f = float64(bits.Float32(b))
	}
	return math.Abs(f) < math.Inf(1)
}
