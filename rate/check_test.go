package rate_test

import (
	"math"
	"testing"

	"pupil/api"
	"pupil/rate"
)

var noKinds = []int{-1, 6, 7, -5, 42, 1 << 32, 1<<32 + 1, math.MaxInt, math.MinInt}

// wantCheck wants Check to tell an error, and At the same one: an error of the schedule comes ahead of all others.
func wantCheck(t *testing.T, s api.Schedule, want api.Errno) {
	t.Helper()
	if e := rate.Check(s); e != want {
		t.Errorf("Check(%+v): %v, want %v", s, e, want)
	}
	for _, step := range []int{0, -1, api.MaxStep + 1} {
		if b, e := rate.At(s, step); want != api.OK && (b != 0 || e != want) || want == api.OK && e == api.ErrRule {
			t.Errorf("At(%+v, %d): %#x, %v, want %v", s, step, b, e, want)
		}
	}
}

// TestP1801Kinds: each kind is one, and no other int.
func TestP1801Kinds(t *testing.T) {
	for _, kind := range kinds {
		wantCheck(t, right(kind), api.OK)
	}
	for _, kind := range noKinds {
		wantCheck(t, right(kind), api.ErrRule)
		wantCheck(t, api.Schedule{Kind: kind}, api.ErrRule)
	}
	wantCheck(t, api.Schedule{}, api.OK)
}

// TestP1801Numbers: Base and Factor at their edges, whether the kind uses them or not.
func TestP1801Numbers(t *testing.T) {
	wrong := []int{api.NaN, api.NaN | minus, api.Inf + 1, math.MaxInt, -1, api.Inf, api.Inf | minus, least | minus, bitsOf(-1), bitsOf(-1e-300), most | minus, bitsOf(-0x1p-1022)}
	good := []int{0, minus, least, 2, 1<<52 - 1, 1 << 52, bitsOf(0.1), bitsOf(1), bitsOf(1e300), most, api.NaN32, api.Inf32, 1 << 31}
	for _, kind := range kinds {
		for _, set := range []func(s *api.Schedule, b int){
			func(s *api.Schedule, b int) { s.Base = b },
			func(s *api.Schedule, b int) { s.Factor = b },
			func(s *api.Schedule, b int) { s.Base, s.Factor = b, b },
		} {
			for _, b := range wrong {
				s := right(kind)
				set(&s, b)
				wantCheck(t, s, api.ErrRule)
			}
			for _, b := range good {
				s := right(kind)
				set(&s, b)
				wantCheck(t, s, api.OK)
			}
		}
	}
}

// counts are the numbers of steps of a schedule.
var counts = []struct {
	name string
	set  func(s *api.Schedule, n int)
}{
	{"Warm", func(s *api.Schedule, n int) { s.Warm = n }},
	{"Every", func(s *api.Schedule, n int) { s.Every = n }},
	{"Total", func(s *api.Schedule, n int) { s.Total = n }},
}

// TestP1801Counts: Warm, Every and Total at their edges, each, whether the kind uses them or not.
func TestP1801Counts(t *testing.T) {
	for _, kind := range kinds {
		for _, c := range counts {
			for _, n := range []int{-1, -2, -api.MaxStep, math.MinInt, math.MinInt + 1, api.MaxStep + 1, 1 << 41, math.MaxInt} {
				s := right(kind)
				c.set(&s, n)
				wantCheck(t, s, api.ErrRule)
			}
			for _, n := range []int{1, 2, 8, api.MaxStep - 1, api.MaxStep} {
				s, want := right(kind), api.OK
				c.set(&s, n)
				if c.name == "Every" && kind == api.RatePower && n > 8 {
					want = api.ErrRule
				}
				wantCheck(t, s, want)
			}
		}
		s := right(kind)
		s.Warm = 0
		wantCheck(t, s, api.OK)
	}
}

// TestP1801Wanted: which kinds want an Every, a Total; which have a greatest Every.
func TestP1801Wanted(t *testing.T) {
	refused := map[bool]api.Errno{true: api.ErrRule}
	for _, c := range []struct {
		kind                int
		every, total, short bool
	}{
		{kind: api.RateConstant},
		{kind: api.RateSteps, every: true},
		{kind: api.RateLinear, total: true},
		{kind: api.RateRoot, every: true},
		{kind: api.RateTriangle, every: true},
		{kind: api.RatePower, every: true, total: true, short: true},
	} {
		s := right(c.kind)
		s.Every = 0
		wantCheck(t, s, refused[c.every])
		s.Every = 8
		wantCheck(t, s, api.OK)
		s.Every = 9
		wantCheck(t, s, refused[c.short])
		s = right(c.kind)
		s.Total = 0
		wantCheck(t, s, refused[c.total])
		s.Every = 0
		wantCheck(t, s, refused[c.every || c.total])
	}
}

// TestP1801All: many schedules, held against the chapter's words.
func TestP1801All(t *testing.T) {
	seen := map[api.Errno]int{}
	numbers := []int{0, minus, least, least | minus, bitsOf(0.5), most, most | minus, api.Inf, api.NaN, -1}
	lengths := []int{-1, 0, 1, 8, 9, api.MaxStep, api.MaxStep + 1, math.MinInt}
	for _, kind := range append([]int{-1, 6}, kinds...) {
		for _, base := range numbers {
			for _, factor := range numbers {
				for _, warm := range lengths {
					for _, every := range lengths {
						for _, total := range lengths {
							s := api.Schedule{Kind: kind, Base: base, Factor: factor, Warm: warm, Every: every, Total: total}
							want := isSchedule(s)
							if e := rate.Check(s); e != want {
								t.Fatalf("Check(%+v): %v, want %v", s, e, want)
							}
							seen[want]++
						}
					}
				}
			}
		}
	}
	if seen[api.OK] < 1000 || seen[api.ErrRule] < 1000 {
		t.Errorf("%v", seen)
	}
}
