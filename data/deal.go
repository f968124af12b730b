package data

import (
	"slices"

	"pupil/api"
	"pupil/rng"
)

// Shards parts so many things.
func Shards(n, parts int) ([][2]int, api.Errno) {
	switch {
	case n < 0 || parts < 1:
		return nil, api.ErrArg
	case n > api.MaxRows || parts > api.MaxWorkers:
		return nil, api.ErrLong
	}
	shards, from := make([][2]int, parts), 0
	for i := range parts {
		to := from + n/parts
		if i < n%parts {
			to++
		}
		shards[i] = [2]int{from, to}
		from = to
	}
	return shards, api.OK
}

// Order tells in which order an epoch goes through so many rows.
func Order(n, seed, epoch int) ([]int, api.Errno) {
	switch {
	case n < 1 || epoch < 0:
		return nil, api.ErrArg
	case n > api.MaxRows:
		return nil, api.ErrLong
	}
	// Streams below 0 are the epochs': those from 0 on are the parameters'.
	order, _, e := rng.Shuffle(api.Draw{Seed: seed, Stream: -1 - epoch}, n)
	return order, e
}

// Batches tells how many batches an epoch has.
func Batches(n, size int) (int, api.Errno) {
	switch {
	case n < 1 || size < 1:
		return 0, api.ErrArg
	case n > api.MaxRows || size > api.MaxBatch:
		return 0, api.ErrLong
	}
	return (n + size - 1) / size, api.OK
}

// Batch tells the rows of a batch.
func Batch(n, size, seed, epoch, batch int) ([]int, api.Errno) {
	count, e := Batches(n, size)
	if e != api.OK {
		return nil, e
	}
	order, e := Order(n, seed, epoch)
	if e != api.OK {
		return nil, e
	}
	if batch < 0 || batch >= count {
		return nil, api.ErrIndex
	}
	from, to := batch*size, min(n, (batch+1)*size)
	rows := order[from:to:to]
	slices.Sort(rows)
	return rows, api.OK
}
