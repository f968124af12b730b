package kernel

import (
	"slices"

	"pupil/bits"
)

// floats are the language's own, of both widths.
type floats interface{ float32 | float64 }

// single is an operation on two floats: a generic function, as it is in either width.
type single struct {
	narrow func(x, y float32) float32
	wide   func(x, y float64) float64
}

// The single operations. Each conversion bars the fusing of one with another.
func sum[F floats](x, y F) F        { return F(x + y) }
func difference[F floats](x, y F) F { return F(x - y) }
func product[F floats](x, y F) F    { return F(x * y) }
func quotient[F floats](x, y F) F   { return F(x / y) }

// above tells a float that is above a floor, or no number; else the floor.
func above[F floats](x, floor F) F {
	if x > floor || x != x {
		return x
	}
	return floor
}

func sums() single        { return single{sum[float32], sum[float64]} }
func differences() single { return single{difference[float32], difference[float64]} }
func products() single    { return single{product[float32], product[float64]} }
func quotients() single   { return single{quotient[float32], quotient[float64]} }
func heights() single     { return single{above[float32], above[float64]} }

// of does the operation at each place of two lists, which are as long.
func (s single) of(x, y []int, w int) []int {
	if w == 32 {
		return side(x, y, s.narrow, bits.Float32, bits.Of32)
	}
	return side(x, y, s.wide, bits.Float, bits.Of)
}

// by does the operation at each place of a list, with one float as the other one.
func (s single) by(x []int, y, w int) []int {
	return s.of(x, slices.Repeat([]int{y}, len(x)), w)
}

// side goes over two lists side by side, in the floats of a width.
func side[F floats](x, y []int, do func(x, y F) F, float func(b int) F, told func(f F) int) []int {
	list := make([]int, len(x))
	for i := range x {
		list[i] = told(do(float(x[i]), float(y[i])))
	}
	return list
}

// place tells where the greatest of a row stands.
func place(row []int, w int) int {
	if w == 32 {
		return firstGreatest(row, bits.Float32)
	}
	return firstGreatest(row, bits.Float)
}

// firstGreatest tells the place of the first that is no number; of the first that none is above, if all are numbers.
func firstGreatest[F floats](row []int, float func(b int) F) int {
	at := 0
	for i, b := range row {
		x := float(b)
		if x != x {
			return i
		}
		if x > float(row[at]) {
			at = i
		}
	}
	return at
}
