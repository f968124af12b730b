package train_test

import (
	"math/rand"
	"slices"
	"testing"

	"pupil/api"
	"pupil/data"
	"pupil/train"
)

// TestP2104Epochs: the rows of each step of several epochs, held against chapter 19: each epoch has each row once.
func TestP2104Epochs(t *testing.T) {
	r := rand.New(rand.NewSource(2104))
	for _, w := range widths {
		for _, c := range [][2]int{{7, 3}, {6, 3}, {5, 1}, {4, 4}, {4, 9}, {40, 7}, {300, 256}, {513, 256}, {1, 1}} {
			for _, seed := range []int{0, 1, -5, lowest} {
				p, s := linear(w), api.Set{X: some(r, c[0], 1, w), Y: some(r, c[0], 1, w)}
				p.Batch, p.Seed = c[1], seed
				x := begun(t, p, s)
				count, _ := data.Batches(c[0], c[1])
				for epoch := range 3 {
					var all []int
					for batch := range count {
						y := moved(p, s, x, epoch*count+batch)
						rows, e := train.Rows(p, s, y)
						want, _ := data.Batch(c[0], c[1], seed, epoch, batch)
						plain, _ := rowsOf(p, s, y)
						if e != api.OK || !slices.Equal(rows, want) || !slices.Equal(rows, plain) || !slices.IsSorted(rows) {
							t.Errorf("%v, epoch %d, batch %d: %v, %v, want %v", c, epoch, batch, rows, e, want)
						}
						all = append(all, rows...)
					}
					slices.Sort(all)
					if !slices.Equal(all, upTo(c[0])) {
						t.Errorf("%v, epoch %d: %v", c, epoch, all)
					}
				}
			}
		}
	}
}

// TestP2104Last: the last batch of an epoch has what is left.
func TestP2104Last(t *testing.T) {
	p, s, x := model(t, 64)
	for step, long := range []int{3, 3, 1, 3, 3, 1} {
		if rows, e := train.Rows(p, s, moved(p, s, x, step)); len(rows) != long || e != api.OK {
			t.Errorf("step %d: %v, %v", step, rows, e)
		}
	}
}

// TestP2104End: at the last step there is no next one; just ahead of it there is.
func TestP2104End(t *testing.T) {
	for _, w := range widths {
		p, s, x := model(t, w)
		for _, step := range []int{api.MaxStep - 3, api.MaxStep - 2, api.MaxStep - 1} {
			y := moved(p, s, x, step)
			rows, e := train.Rows(p, s, y)
			if want, _ := rowsOf(p, s, y); e != api.OK || len(rows) == 0 || !slices.Equal(rows, want) {
				t.Errorf("step %d: %v, %v, want %v", step, rows, e, want)
			}
		}
		y := moved(p, s, x, api.MaxStep)
		if rows, e := train.Rows(p, s, y); len(rows) > 0 || e != api.ErrLong {
			t.Errorf("the last step: %v, %v", rows, e)
		}
		y.Params[0].Bits[0] = infinityOf(y.Params[0].Width)
		if rows, e := train.Rows(p, s, y); len(rows) > 0 || e != api.ErrState {
			t.Errorf("the last step, with no state: %v, %v", rows, e)
		}
		p.Batch = 0
		if rows, e := train.Rows(p, s, y); len(rows) > 0 || e != api.ErrArg {
			t.Errorf("the last step, with no plan: %v, %v", rows, e)
		}
	}
}

// TestP2104Hangs: rows hang on the set's rows, the batch, the seed and where the state stands, on nothing else.
func TestP2104Hangs(t *testing.T) {
	r := rand.New(rand.NewSource(9))
	p, s, x := model(t, 64)
	want, _ := train.Rows(p, s, x)
	q := p
	q.Rule.Momentum, q.Schedule.Base, q.Out = bitsOf(0.25), bitsOf(9), 1
	y := strayed(r, x)
	y.Loss, y.Rate = 77, 88
	if rows, e := train.Rows(q, mixedSet(r, 7, 64), y); e != api.OK || !slices.Equal(rows, want) {
		t.Errorf("%v, %v, want %v", rows, e, want)
	}
	other := 0
	for seed := range 20 {
		q := p
		q.Seed = seed
		if rows, _ := train.Rows(q, s, x); !slices.Equal(rows, want) {
			other++
		}
	}
	if other < 10 {
		t.Errorf("%d seeds of 20 tell other rows", other)
	}
}
