package train_test

import (
	"math"
	"math/big"
	"slices"

	"pupil/api"
	"pupil/data"
	"pupil/eval"
	"pupil/optim"
	"pupil/part"
	"pupil/rate"
	"pupil/start"
	"pupil/tape"
)

// The chapter reckoned once more, plainly, by the layers below: sentence by sentence, each call by itself.

// checkOf is P2101.
func checkOf(p api.Plan, s api.Set) api.Errno {
	if e := part.Fits(p, s); e != api.OK {
		return e
	}
	for i, x := range p.Inits {
		if _, e := start.Make(x, p.Seed, i); e != api.OK {
			return e
		}
	}
	for _, x := range p.Inits {
		if e := optim.Check(p.Rule, x.Width); e != api.OK {
			return e
		}
	}
	if e := rate.Check(p.Schedule); e != api.OK {
		return e
	}
	if p.Batch < 1 || p.Batch > 256 {
		return api.ErrArg
	}
	return api.OK
}

// newOf is P2102.
func newOf(p api.Plan, s api.Set) (api.State, api.Errno) {
	if e := checkOf(p, s); e != api.OK {
		return api.State{}, e
	}
	var x api.State
	for i, way := range p.Inits {
		w, _ := start.Make(way, p.Seed, i)
		kept, _ := optim.Fresh(p.Rule, w)
		x.Params, x.Slots = append(x.Params, w), append(x.Slots, kept)
	}
	return x, api.OK
}

// finite tells whether bits are those of a finite float of a width.
func finite(b, width int) bool {
	if width == 32 && (b < 0 || b > math.MaxUint32) {
		return false
	}
	f := value(b, width)
	return !math.IsNaN(f) && !math.IsInf(f, 0)
}

// fitting tells whether a matrix is in form, finite, and of a shape that is one.
func fitting(m api.Matrix, rows, cols, width int) bool {
	if m.Rows != rows || m.Cols != cols || m.Width != width || len(m.Bits) != rows*cols {
		return false
	}
	return !slices.ContainsFunc(m.Bits, func(b int) bool { return !finite(b, width) })
}

// isOf is P2103.
func isOf(p api.Plan, s api.Set, x api.State) api.Errno {
	if e := checkOf(p, s); e != api.OK {
		return e
	}
	count := 0
	for count*p.Batch < s.X.Rows {
		count++
	}
	if x.Step < 0 || x.Step > 1<<40 || x.Batch < 0 || x.Batch >= count || x.Epoch < 0 || x.Epoch > 1<<40 || x.Epoch*count+x.Batch != x.Step {
		return api.ErrState
	}
	if len(x.Params) != len(p.Inits) || len(x.Slots) != len(p.Inits) {
		return api.ErrState
	}
	for i, way := range p.Inits {
		if !fitting(x.Params[i], way.Rows, way.Cols, way.Width) {
			return api.ErrState
		}
		w, _ := start.Make(way, p.Seed, i)
		kept, _ := optim.Fresh(p.Rule, w)
		if len(x.Slots[i]) != len(kept) {
			return api.ErrState
		}
		for k, m := range kept {
			if !fitting(x.Slots[i][k], m.Rows, m.Cols, m.Width) {
				return api.ErrState
			}
		}
	}
	shapes, _ := tape.Check(p.Tape)
	if !finite(x.Loss, shapes[p.Loss].Width) || !finite(x.Rate, 64) || value(x.Rate, 64) < 0 {
		return api.ErrState
	}
	return api.OK
}

// rowsOf is P2104.
func rowsOf(p api.Plan, s api.Set, x api.State) ([]int, api.Errno) {
	if e := isOf(p, s, x); e != api.OK {
		return nil, e
	}
	if x.Step == 1<<40 {
		return nil, api.ErrLong
	}
	order, _ := data.Order(s.X.Rows, p.Seed, x.Epoch)
	rows := order[x.Batch*p.Batch : min(s.X.Rows, (x.Batch+1)*p.Batch)]
	slices.Sort(rows)
	return rows, api.OK
}

// applyOf is P2105.
func applyOf(p api.Plan, s api.Set, x api.State, told api.Part) (api.State, api.Trace, api.Where, api.Errno) {
	rows, e := rowsOf(p, s, x)
	if e != api.OK {
		return api.State{}, api.Trace{}, api.Where{}, e
	}
	if !slices.Equal(told.Rows, rows) {
		return api.State{}, api.Trace{}, api.Where{}, api.ErrRow
	}
	loss, grads, where, e := part.Close(p, told)
	if e != api.OK {
		return api.State{}, api.Trace{}, where, e
	}
	speed, e := rate.At(p.Schedule, x.Step)
	if e != api.OK {
		return api.State{}, api.Trace{}, api.Where{}, e
	}
	grads, e = optim.Scale(p.Rule.Norm, grads)
	if e != api.OK {
		return api.State{}, api.Trace{}, api.Where{}, e
	}
	y := api.State{Step: x.Step + 1, Epoch: x.Epoch, Batch: x.Batch + 1, Loss: loss, Rate: speed}
	if y.Batch*p.Batch >= s.X.Rows {
		y.Epoch, y.Batch = x.Epoch+1, 0
	}
	for i := range x.Params {
		w, kept, at, e := optim.Step(p.Rule, speed, x.Params[i], grads[i], x.Slots[i])
		if e != api.OK {
			return api.State{}, api.Trace{}, api.Where{Kind: api.InParam, Node: i, At: at}, e
		}
		y.Params, y.Slots = append(y.Params, w), append(y.Slots, kept)
	}
	return y, api.Trace{Step: x.Step, Loss: loss, Rate: speed, Sum: sumOf(y)}, api.Where{}, api.OK
}

// stepOf is P2106.
func stepOf(p api.Plan, s api.Set, x api.State) (api.State, api.Trace, api.Where, api.Errno) {
	rows, e := rowsOf(p, s, x)
	if e != api.OK {
		return api.State{}, api.Trace{}, api.Where{}, e
	}
	told, where, e := part.Of(p, x.Params, s, rows)
	if e != api.OK {
		return api.State{}, api.Trace{}, where, e
	}
	return applyOf(p, s, x, told)
}

// runOf is P2107.
func runOf(p api.Plan, s api.Set, x api.State, steps int) (api.State, []api.Trace, api.Where, api.Errno) {
	if steps < 0 {
		return api.State{}, nil, api.Where{}, api.ErrArg
	}
	if steps > 65536 {
		return api.State{}, nil, api.Where{}, api.ErrLong
	}
	if e := isOf(p, s, x); e != api.OK {
		return api.State{}, nil, api.Where{}, e
	}
	var traces []api.Trace
	for range steps {
		y, trace, where, e := stepOf(p, s, x)
		if e != api.OK {
			return x, traces, where, e
		}
		x, traces = y, append(traces, trace)
	}
	return x, traces, api.Where{}, api.OK
}

// evalOf is P2108. Errors of Of that come ahead of its rows have no Where.
func evalOf(p api.Plan, params []api.Matrix, s api.Set, rows []int) (int, []api.Matrix, api.Where, api.Errno) {
	if _, where, e := part.Of(p, params, s, rows); e != api.OK && where == (api.Where{}) {
		return 0, nil, where, e
	}
	sum, width := new(big.Rat), 0
	var outs []api.Matrix
	for _, r := range rows {
		x, y, _ := data.Row(s, r)
		values, f := eval.Run(p.Tape, []api.Matrix{x, y}, params)
		if f.Err != api.OK {
			return 0, nil, api.Where{Kind: api.InValue, Row: r, Node: f.Node, At: f.At}, f.Err
		}
		width = values[p.Loss].Width
		sum.Add(sum, new(big.Rat).SetFloat64(value(values[p.Loss].Bits[0], width)))
		outs = append(outs, values[p.Out])
	}
	return nearest(sum.Quo(sum, new(big.Rat).SetInt64(int64(len(rows)))), width), outs, api.Where{}, api.OK
}

// nearest tells the float that is nearest to a number, never -0.
func nearest(x *big.Rat, width int) int {
	f, _ := x.Float64()
	if width == 32 {
		narrow, _ := x.Float32()
		f = float64(narrow)
	}
	return pattern(f+0, width)
}

// sumOf is P2109, in whole numbers.
func sumOf(x api.State) int {
	list := []int{x.Step, x.Epoch, x.Batch, x.Loss, x.Rate, len(x.Params)}
	lay := func(m api.Matrix) {
		list = append(list, m.Rows, m.Cols, m.Width)
		list = append(list, m.Bits...)
	}
	for _, m := range x.Params {
		lay(m)
	}
	list = append(list, len(x.Slots))
	for _, l := range x.Slots {
		list = append(list, len(l))
		for _, m := range l {
			lay(m)
		}
	}
	modulus := new(big.Int).Lsh(big.NewInt(1), 64)
	h, _ := new(big.Int).SetString("14695981039346656037", 10)
	for _, v := range list {
		n := new(big.Int).Mod(big.NewInt(int64(v)), modulus)
		h.Xor(h, n)
		h.Mul(h, big.NewInt(1099511628211))
		h.Mod(h, modulus)
	}
	if h.BitLen() == 64 {
		h.Sub(h, modulus)
	}
	return int(h.Int64())
}
