package rate

import (
	"sync"
	"testing"

	"pupil/api"
)

// TestTable: a table that several ask at once, for the first time, has all kinds for each of them, and makes them once.
func TestTable(t *testing.T) {
	for range 200 {
		var fresh table
		var group sync.WaitGroup
		begin := make(chan int)
		for range 8 {
			group.Add(1)
			go func() {
				defer group.Done()
				<-begin
				for number := -2; number < 9; number++ {
					told, ok := fresh.of(number)
					if want := number >= api.RateConstant && number <= api.RatePower; ok != want || (told != nil) != want {
						t.Errorf("the kind %d: %v", number, ok)
					}
				}
			}()
		}
		close(begin)
		group.Wait()
		delete(fresh.made, api.RateConstant)
		if _, ok := fresh.of(api.RateConstant); ok {
			t.Error("a table makes its kinds anew")
		}
	}
}
