package rate

import (
	"slices"
	"sync"
	"testing"

	"pupil/api"
)

// TestTable: a table that several ask at once, for the first time, has all kinds for each of them, and makes them once.
func TestTable(t *testing.T) {
	for range 200 {
		var fresh table
		var group sync.WaitGroup
		begin := make(chan int)
		for range 8 {
			group.Add(1)
			go func() {
				defer group.Done()
				<-begin
				for number := -2; number < 9; number++ {
					told, ok := fresh.of(number)
					if want := number >= api.RateConstant && number <= api.RatePower; ok != want || (told != nil) != want {
						t.Errorf("the kind %d: %v", number, ok)
					}
				}
			}()
		}
		close(begin)
		group.Wait()
		delete(fresh.made, api.RateConstant)
		if _, ok := fresh.of(api.RateConstant); ok {
			t.Error("a table makes its kinds anew")
		}
	}
}

// asked is a schedule of a number, and steps in its warm-up and behind it.
func asked(number int) (api.Schedule, []int) {
	const one = 0x3FF0000000000000
	return api.Schedule{Kind: number, Base: one, Factor: one + 5, Warm: 3, Every: 2, Total: 9}, []int{0, 2, 3, 4, 5, 7, 11, 12, 40}
}

// TestTableTells: the table beside kindOf has the same kinds, and no others.
func TestTableTells(t *testing.T) {
	for number := -2; number < 9; number++ {
		told, ok := kindOf(number)
		other, there := kinds.of(number)
		if ok != there || (told != nil) != ok || (other != nil) != ok {
			t.Errorf("the kind %d: %v, the table's: %v", number, ok, there)
		}
		if !ok {
			continue
		}
		s, steps := asked(number)
		for _, k := range steps {
			if a, b := told(s, k), other(s, k); a != b {
				t.Errorf("the kind %d, %d steps on: %#x, the table's: %#x", number, k, a, b)
			}
		}
	}
}

// answers are what Check and At tell of a number's schedule.
func answers(number int) []int {
	s, steps := asked(number)
	list := []int{int(Check(s))}
	for _, step := range steps {
		b, e := At(s, step)
		list = append(list, b, int(e))
	}
	return list
}

// TestTableBeside: Check asks the table; no answer hangs on what it has.
func TestTableBeside(t *testing.T) {
	kinds = table{}
	defer func() { kinds = table{} }()
	var want [][]int
	for number := -2; number < 9; number++ {
		want = append(want, answers(number))
	}
	if len(kinds.made) == 0 {
		t.Error("nobody asks the table")
	}
	wrong := func(api.Schedule, int) int { return -1 }
	for _, spoilt := range []map[int]kind{nil, {api.RateConstant: nil}, {-2: wrong, api.RateConstant: wrong, api.RatePower: wrong, 8: wrong}} {
		kinds.made = spoilt
		for i, list := range want {
			if got := answers(i - 2); !slices.Equal(got, list) {
				t.Errorf("the kind %d hangs on the table: %#x, want %#x", i-2, got, list)
			}
		}
	}
}
