package rate_test

import (
	"math/rand"
	"slices"
	"sync"
	"testing"

	"pupil/api"
	"pupil/rate"
)

// risingSteps are a few steps on end, and some that lie farther and farther, all below an end.
func risingSteps(r *rand.Rand, from, end int) []int {
	var list []int
	for i := 0; from < end && i < 80; i++ {
		list = append(list, from)
		from++
		if i >= 40 {
			from += r.Intn(1 << (i / 2))
		}
	}
	return list
}

// ratesAt are a schedule's rates at steps, none of which is below 0, nor -0.
func ratesAt(t *testing.T, s api.Schedule, steps []int) []int {
	t.Helper()
	list := make([]int, len(steps))
	for i, step := range steps {
		b, e := rate.At(s, step)
		if b < 0 || b >= api.Inf || e != api.OK {
			t.Fatalf("At(%+v, %d): %#x, %v", s, step, b, e)
		}
		list[i] = b
	}
	return list
}

// TestP1803Never: no rate is below 0; a warm-up's never fall; those of three kinds never rise behind it. Bits of floats that are not below 0 rise as these do.
func TestP1803Never(t *testing.T) {
	r := rand.New(rand.NewSource(1803))
	for i := range 900 {
		s := anySchedule(r, i%6)
		if s.Kind == api.RateSteps {
			s.Factor = bitsOf(0.75)
		}
		warm := risingSteps(r, 0, s.Warm)
		if list := ratesAt(t, s, warm); !slices.IsSorted(list) {
			t.Errorf("%+v: a warm-up's rates fall: %d, %x", s, warm, list)
		}
		behind := risingSteps(r, s.Warm, api.MaxStep+1)
		list := ratesAt(t, s, behind)
		slices.Reverse(list)
		if s.Kind != api.RateSteps && s.Kind != api.RateTriangle && !slices.IsSorted(list) {
			t.Errorf("%+v: the rates rise: %d, %x", s, behind, list)
		}
	}
}

// TestP1803End: a warm-up ends at Base, and no kind but RateSteps and RateTriangle is ever above it.
func TestP1803End(t *testing.T) {
	r := rand.New(rand.NewSource(1804))
	for i := range 2000 {
		s := anySchedule(r, i%6)
		s.Warm = 1 + r.Intn(1<<r.Intn(40))
		base := s.Base &^ minus
		wantAt(t, s, s.Warm-1, base, api.OK)
		if s.Kind != api.RateTriangle && s.Kind != api.RateSteps {
			if b, e := rate.At(s, min(api.MaxStep, s.Warm+anyCount(r, 0))); b > base || e != api.OK {
				t.Errorf("%+v: %#x, %v", s, b, e)
			}
		}
	}
}

// question is a schedule and a step.
type question struct {
	s    api.Schedule
	step int
}

// questions are of all kinds; some are refused.
func questions(r *rand.Rand) []question {
	var list []question
	for i := range 300 {
		s := anySchedule(r, i%6)
		list = append(list, question{s, anyStep(r, s)})
		switch i % 10 {
		case 0:
			list = append(list, question{s, -1 - r.Intn(5)})
		case 1:
			s.Base = api.NaN
			list = append(list, question{s, 3})
		case 2:
			s.Kind = 6 + r.Intn(3)
			list = append(list, question{s, 3})
		}
	}
	return list
}

// answers are told in an order of their own.
func answers(list []question, order []int) [][2]int {
	told := make([][2]int, len(list))
	for _, i := range order {
		b, e := rate.At(list[i].s, list[i].step)
		told[i] = [2]int{b, int(e)}
	}
	return told
}

// TestP1803Alone: a rate hangs on its schedule and its step alone: not on what was asked ahead, nor on what is asked at the same time.
func TestP1803Alone(t *testing.T) {
	r := rand.New(rand.NewSource(1805))
	list := questions(r)
	var want [][2]int
	for _, q := range list {
		b, e := wanted(q.s, q.step)
		want = append(want, [2]int{b, int(e)})
	}
	var group sync.WaitGroup
	for range 8 {
		order := r.Perm(len(list))
		group.Add(1)
		go func() {
			defer group.Done()
			for range 2 {
				if got := answers(list, order); !slices.Equal(got, want) {
					t.Error("a rate hangs on what was asked besides")
				}
			}
		}()
	}
	group.Wait()
}
