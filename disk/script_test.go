package disk_test

import (
	"fmt"
	"math/rand"
	"strings"
	"testing"

	"pupil/api"
)

// crashLine makes a line of a crash.
func crashLine(keep []int) string {
	return strings.TrimSpace("C " + strings.Trim(fmt.Sprint(keep), "[]"))
}

// TestP2402Scripts: long rows of all calls, held against the chapter told once more, call by call.
func TestP2402Scripts(t *testing.T) {
	r := rand.New(rand.NewSource(2402))
	told := map[api.Errno]int{}
	below := 0
	for range 600 {
		x := bothOf(t, 1+r.Intn(4), []int{0, 1, 6, 9, 20, 40}[r.Intn(6)])
		var row []string
		for range 10 + r.Intn(90) {
			line := anyStep(r)
			switch r.Intn(30) {
			case 0, 1:
				line = crashLine(anyKeep(r, len(x.p.works)))
			case 2:
				line = fmt.Sprint("Z ", []int{-1, 0, 1, 2, 3, 7, highest, lowest}[r.Intn(8)])
			}
			if !x.p.On() && r.Intn(3) == 0 {
				line = crashLine(anyKeep(r, len(x.p.works)))
			}
			told[x.tell(t, row, line)]++
			row = append(row, line)
			if f, b := x.d.Free(); f < 0 || b < 0 {
				below++
			}
		}
	}
	for _, e := range []api.Errno{api.OK, api.ErrArg, api.ErrName, api.ErrOff, api.ErrFile, api.ErrFull} {
		if told[e] < 40 {
			t.Errorf("%v: %d times", e, told[e])
		}
	}
	if below < 40 {
		t.Errorf("below 0: %d times", below)
	}
}

// TestP2404EveryStep: rows of steps with the power failing at each of them, whatever is kept then; the rest of the row behind it.
func TestP2404EveryStep(t *testing.T) {
	r := rand.New(rand.NewSource(2404))
	for range 25 {
		var row []string
		for range 10 + r.Intn(30) {
			row = append(row, anyStep(r))
		}
		names, bytes := 2+r.Intn(4), 10+r.Intn(20)
		for fuse := range len(row) + 1 {
			x := bothOf(t, names, bytes)
			x.tell(t, nil, fmt.Sprint("Z ", fuse))
			for i, line := range row {
				if x.tell(t, row[:i], line) == api.ErrOff {
					x.tell(t, row[:i], crashLine(anyKeep(r, len(x.p.works))))
				}
			}
			x.tell(t, row, crashLine(anyKeep(r, len(x.p.works))))
		}
	}
}

// each goes over all rows of so many of some things.
func each[T any](things []T, n int, do func(row []T)) {
	row := make([]T, n)
	var fill func(at int)
	fill = func(at int) {
		if at == n {
			do(row)
			return
		}
		for _, x := range things {
			row[at] = x
			fill(at + 1)
		}
	}
	fill(0)
}

// TestP2410Every: all short rows of a few steps, behind two beginnings, with all that can be kept.
func TestP2410Every(t *testing.T) {
	few := []string{"W a xy", "W b z", "A a w", "F a", "F b", "R a b", "R b a", "R b c", "D a", "D b", "S"}
	crashes := 0
	for _, begin := range []string{"", "W a 12; F a; W b 3; F b; S"} {
		each(few, 3, func(row []string) {
			script := append(lines(begin), row...)
			start := func() both {
				x := bothOf(t, 3, 9)
				for _, line := range script {
					if e, f := tell(x.d, line), tell(x.p, line); e != f {
						t.Fatalf("%q of %q: %v, want %v", line, script, e, f)
					}
				}
				return x
			}
			x := start()
			x.compare(t, script)
			each([]int{0, 1, 2}, len(x.p.works), func(keep []int) {
				x := start()
				x.tell(t, script, crashLine(keep))
				crashes++
			})
		})
	}
	if crashes < 50000 {
		t.Errorf("%d crashes", crashes)
	}
}
