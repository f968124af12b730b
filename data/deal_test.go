package data_test

import (
	"slices"
	"testing"

	"pupil/api"
	"pupil/data"
	"pupil/rng"
)

// atLimits are ints about 0, about a limit and at the ends.
func atLimits(limit int) []int {
	return []int{lowest, lowest + 1, -1 << 32, -2, -1, 0, 1, 2, limit - 1, limit, limit + 1, limit + 2, 2 * limit, 1 << 32, 1<<32 + 1, highest - 1, highest}
}

// limited tells the error of two numbers, each with its least and its greatest.
func limited(n, least, most, m, from, to int) api.Errno {
	if n < least || m < from {
		return api.ErrArg
	}
	if n > most || m > to {
		return api.ErrLong
	}
	return api.OK
}

// dealt are the shards by the chapter's words: one thing behind the other is dealt, and the first shards have one more.
func dealt(n, parts int) [][2]int {
	sizes := make([]int, parts)
	for i := range n {
		sizes[i%parts]++
	}
	var list [][2]int
	at := 0
	for _, size := range sizes {
		list = append(list, [2]int{at, at + size})
		at += size
	}
	return list
}

func wantShards(t *testing.T, n, parts int) {
	t.Helper()
	got, e := data.Shards(n, parts)
	if e != api.OK || !slices.Equal(got, dealt(n, parts)) {
		t.Errorf("Shards(%d, %d): %v, %v, want %v", n, parts, got, e, dealt(n, parts))
	}
}

// TestP1903Refused: n and parts at their limits, alone and in pairs.
func TestP1903Refused(t *testing.T) {
	for _, n := range atLimits(api.MaxRows) {
		for _, parts := range atLimits(api.MaxWorkers) {
			want := limited(n, 0, api.MaxRows, parts, 1, api.MaxWorkers)
			if want == api.OK {
				wantShards(t, n, parts)
			} else if got, e := data.Shards(n, parts); len(got) != 0 || e != want {
				t.Errorf("Shards(%d, %d): %v, %v, want %v", n, parts, got, e, want)
			}
		}
	}
	for _, c := range []struct {
		n, parts int
		e        api.Errno
	}{{-1, 1, api.ErrArg}, {0, 0, api.ErrArg}, {-1, 0, api.ErrArg}, {4097, 1, api.ErrLong}, {1, 17, api.ErrLong}, {4097, 17, api.ErrLong}, {-1, 17, api.ErrArg}, {4097, 0, api.ErrArg}, {4096, 16, api.OK}, {0, 1, api.OK}} {
		if _, e := data.Shards(c.n, c.parts); e != c.e {
			t.Errorf("Shards(%d, %d): %v, want %v", c.n, c.parts, e, c.e)
		}
	}
}

// TestP1903Shards: each n of some hundreds, and those about the greatest, in all numbers of parts.
func TestP1903Shards(t *testing.T) {
	for parts := 1; parts <= api.MaxWorkers; parts++ {
		for n := range 300 {
			wantShards(t, n, parts)
		}
		for n := api.MaxRows - 40; n <= api.MaxRows; n++ {
			wantShards(t, n, parts)
		}
	}
	for _, c := range []struct {
		n, parts int
		want     [][2]int
	}{
		{6, 3, [][2]int{{0, 2}, {2, 4}, {4, 6}}}, {5, 3, [][2]int{{0, 2}, {2, 4}, {4, 5}}}, {8, 3, [][2]int{{0, 3}, {3, 6}, {6, 8}}}, {2, 4, [][2]int{{0, 1}, {1, 2}, {2, 2}, {2, 2}}}, {0, 2, [][2]int{{0, 0}, {0, 0}}}, {4096, 1, [][2]int{{0, 4096}}},
	} {
		if got, e := data.Shards(c.n, c.parts); e != api.OK || !slices.Equal(got, c.want) {
			t.Errorf("Shards(%d, %d): %v, %v, want %v", c.n, c.parts, got, e, c.want)
		}
	}
}

// seeds and epochs are ints of all sizes.
var (
	seeds  = []int{0, 1, -1, 42, 1 << 40, lowest, highest}
	epochs = []int{0, 1, 2, 3, 1000, 1 << 40, highest - 1, highest}
)

// The words of chapter 6 once more: a word at a place, and a number below another.

func mix(z uint64) uint64 {
	z = (z ^ z>>30) * 0xBF58476D1CE4E5B9
	z = (z ^ z>>27) * 0x94D049BB133111EB
	return z ^ z>>31
}

func below(seed, stream int, at *int, n int) int {
	key := mix(uint64(seed) ^ mix(uint64(stream)+0x632BE59BD9B4E019))
	over := -uint64(n) % uint64(n) // 2^64 modulo n
	for {
		*at++
		word := mix(key + uint64(*at)*0x9E3779B97F4A7C15)
		if over == 0 || word < -over {
			return int(word % uint64(n))
		}
	}
}

// orderOf is an epoch's order by the chapters' words.
func orderOf(n, seed, epoch int) []int {
	list, at := make([]int, n), 0
	for i := range n {
		list[i] = i
	}
	for i := n - 1; i >= 1; i-- {
		j := below(seed, -1-epoch, &at, i+1)
		list[i], list[j] = list[j], list[i]
	}
	return list
}

// TestP1904Order: chapter 6's shuffle, from the epoch's own draw.
func TestP1904Order(t *testing.T) {
	for _, n := range []int{1, 2, 3, 4, 7, 64, 100, 255, 1000, 4095, 4096} {
		for _, seed := range seeds {
			for _, epoch := range epochs {
				got, e := data.Order(n, seed, epoch)
				want, _, _ := rng.Shuffle(api.Draw{Seed: seed, Stream: -1 - epoch, At: 0}, n)
				if e != api.OK || !slices.Equal(got, want) || !slices.Equal(got, orderOf(n, seed, epoch)) {
					t.Errorf("Order(%d, %d, %d): %v, %v, want %v", n, seed, epoch, got, e, want)
				}
			}
		}
	}
}

// TestP1904Unlike: other seeds and other epochs have other orders.
func TestP1904Unlike(t *testing.T) {
	var all [][]int
	for _, seed := range seeds {
		for _, epoch := range epochs {
			order, _ := data.Order(1000, seed, epoch)
			for _, other := range all {
				if slices.Equal(order, other) {
					t.Errorf("the seed %d, the epoch %d: an order again", seed, epoch)
				}
			}
			all = append(all, order)
		}
	}
}

// TestP1904Refused: n, then the epoch, then n's upper limit.
func TestP1904Refused(t *testing.T) {
	for _, n := range atLimits(api.MaxRows) {
		for _, epoch := range append([]int{lowest, lowest + 1, -2, -1}, epochs...) {
			for _, seed := range seeds {
				got, e := data.Order(n, seed, epoch)
				want := limited(n, 1, api.MaxRows, epoch, 0, highest)
				if e != want || want != api.OK && len(got) != 0 || want == api.OK && len(got) != n {
					t.Errorf("Order(%d, %d, %d): %d of them, %v, want %v", n, seed, epoch, len(got), e, want)
				}
			}
		}
	}
	for _, c := range []struct {
		n, epoch int
		e        api.Errno
	}{{0, 0, api.ErrArg}, {1, -1, api.ErrArg}, {0, -1, api.ErrArg}, {4097, 0, api.ErrLong}, {4097, -1, api.ErrArg}, {-1, highest, api.ErrArg}, {4096, 0, api.OK}, {1, 0, api.OK}} {
		if _, e := data.Order(c.n, 7, c.epoch); e != c.e {
			t.Errorf("Order(%d, 7, %d): %v, want %v", c.n, c.epoch, e, c.e)
		}
	}
}

// counted is how many batches there are, one taken behind the other.
func counted(n, size int) int {
	count := 0
	for ; n > 0; n -= size {
		count++
	}
	return count
}

// TestP1905Batches: how many it takes, and what is refused.
func TestP1905Batches(t *testing.T) {
	for _, n := range atLimits(api.MaxRows) {
		for _, size := range atLimits(api.MaxBatch) {
			want, e := 0, limited(n, 1, api.MaxRows, size, 1, api.MaxBatch)
			if e == api.OK {
				want = counted(n, size)
			}
			if got, f := data.Batches(n, size); got != want || f != e {
				t.Errorf("Batches(%d, %d): %d, %v, want %d, %v", n, size, got, f, want, e)
			}
		}
	}
	for n := 1; n < 600; n++ {
		for size := 1; size <= api.MaxBatch; size++ {
			if got, e := data.Batches(n, size); got != counted(n, size) || e != api.OK {
				t.Errorf("Batches(%d, %d): %d, %v", n, size, got, e)
			}
		}
	}
}

// batchOf is a batch by the chapter's words.
func batchOf(n, size, seed, epoch, batch int) []int {
	var list []int
	for i, row := range orderOf(n, seed, epoch) {
		if i/size == batch {
			list = append(list, row)
		}
	}
	slices.Sort(list)
	return list
}

// TestP1905Batch: each batch of epochs whose last one is full, and of those whose last one is not; none ahead of them or behind.
func TestP1905Batch(t *testing.T) {
	for _, c := range [][2]int{{1, 1}, {1, 256}, {2, 1}, {6, 3}, {7, 3}, {8, 3}, {9, 3}, {255, 256}, {256, 256}, {257, 256}, {100, 7}, {4096, 256}, {4095, 256}, {4096, 255}} {
		n, size := c[0], c[1]
		count := counted(n, size)
		for _, epoch := range []int{0, 5, highest} {
			for batch := range count {
				got, e := data.Batch(n, size, n, epoch, batch)
				if want := batchOf(n, size, n, epoch, batch); e != api.OK || !slices.Equal(got, want) {
					t.Errorf("Batch(%d, %d, %d, %d, %d): %v, %v, want %v", n, size, n, epoch, batch, got, e, want)
				}
				if long := min(size, n-batch*size); len(got) != long || !slices.IsSorted(got) {
					t.Errorf("Batch(%d, %d, %d, %d, %d): %v", n, size, n, epoch, batch, got)
				}
			}
			for _, batch := range []int{-1, -2, count, count + 1, n + 1, lowest, highest, 1 << 62, -1 << 62} {
				if got, e := data.Batch(n, size, n, epoch, batch); len(got) != 0 || e != api.ErrIndex {
					t.Errorf("Batch(%d, %d, %d, %d, %d): %v, %v", n, size, n, epoch, batch, got, e)
				}
			}
		}
	}
}

// TestP1905Refused: Batches' errors, then Order's, then that of a batch that is none.
func TestP1905Refused(t *testing.T) {
	for _, n := range atLimits(api.MaxRows) {
		for _, size := range atLimits(api.MaxBatch) {
			for _, epoch := range []int{lowest, -1, 0, highest} {
				for _, batch := range []int{lowest, -1, 0, highest} {
					_, want := data.Batches(n, size)
					if want == api.OK && epoch < 0 {
						want = api.ErrArg
					}
					if want == api.OK && batch != 0 {
						want = api.ErrIndex
					}
					got, e := data.Batch(n, size, 3, epoch, batch)
					if e != want || (len(got) != 0) != (want == api.OK) {
						t.Errorf("Batch(%d, %d, 3, %d, %d): %v, %v, want %v", n, size, epoch, batch, got, e, want)
					}
				}
			}
		}
	}
	for _, c := range []struct {
		n, size, epoch, batch int
		e                     api.Errno
	}{
		{0, 1, 0, 0, api.ErrArg}, {1, 0, 0, 0, api.ErrArg}, {4097, 1, 0, 0, api.ErrLong}, {1, 257, 0, 0, api.ErrLong}, {1, 1, -1, 0, api.ErrArg}, {1, 1, 0, 1, api.ErrIndex}, {1, 1, 0, -1, api.ErrIndex},
		{0, 257, 0, 0, api.ErrArg}, {4097, 0, 0, 0, api.ErrArg}, // ErrArg comes ahead of ErrLong,
		{4097, 1, -1, 0, api.ErrLong}, {1, 257, -1, 0, api.ErrLong}, // which comes ahead of Order's ErrArg,
		{1, 1, -1, 1, api.ErrArg}, {1, 1, -1, -1, api.ErrArg}, // which comes ahead of ErrIndex,
		{4097, 1, 0, -1, api.ErrLong}, // as the others do
	} {
		if got, e := data.Batch(c.n, c.size, 9, c.epoch, c.batch); len(got) != 0 || e != c.e {
			t.Errorf("Batch(%d, %d, 9, %d, %d): %v, %v, want %v", c.n, c.size, c.epoch, c.batch, got, e, c.e)
		}
	}
}

// TestP1908Epoch: an epoch's batches have each row just once.
func TestP1908Epoch(t *testing.T) {
	for _, n := range []int{1, 2, 5, 64, 100, 1000, 4096} {
		for _, size := range []int{1, 2, 3, 7, 64, 100, 255, 256} {
			if n/size > 600 {
				continue
			}
			for _, epoch := range []int{0, 1, highest} {
				count, _ := data.Batches(n, size)
				var all []int
				for batch := range count {
					rows, e := data.Batch(n, size, 11, epoch, batch)
					if e != api.OK {
						t.Errorf("Batch(%d, %d, 11, %d, %d): %v", n, size, epoch, batch, e)
					}
					all = append(all, rows...)
				}
				slices.Sort(all)
				for i := range n {
					if len(all) != n || all[i] != i {
						t.Fatalf("%d rows in batches of %d: %v", n, size, all)
					}
				}
			}
		}
	}
}
