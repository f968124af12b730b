package reverse

import (
	"sync"

	"pupil/acc"
	"pupil/api"
)

// line is the sums of one row.
type line struct {
	row  int
	sums []api.Acc
}

// dots tells, row by row, the exact sums of the products of each row of a matrix with each row of another. Each row has a worker; its sums go where they belong, whenever they come.
func dots(a, b api.Matrix) []api.Acc {
	told := make(chan line, a.Rows)
	var work sync.WaitGroup
	for r := range a.Rows {
		work.Go(func() { told <- line{r, rowDots(rowOf(a, r), b)} })
	}
	work.Wait()
	close(told)
	sums := make([]api.Acc, a.Rows*b.Rows)
	for l := range told {
		copy(sums[l.row*b.Rows:], l.sums)
	}
	return sums
}

// rowDots tells those of one row.
func rowDots(row []int, b api.Matrix) []api.Acc {
	sums := make([]api.Acc, b.Rows)
	for r := range b.Rows {
		sums[r], _ = acc.Products(row, rowOf(b, r), b.Width)
	}
	return sums
}
