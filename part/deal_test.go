package part_test

import (
	"math/rand"
	"slices"
	"testing"

	"pupil/api"
	"pupil/data"
	"pupil/part"
)

// dealt parts rows into so many lists at random, none empty, each rising.
func dealt(r *rand.Rand, rows []int, parts int) [][]int {
	l := make([][]int, parts)
	for i, k := range r.Perm(len(rows)) {
		to := i
		if i >= parts {
			to = r.Intn(parts)
		}
		l[to] = append(l[to], rows[k])
	}
	for _, some := range l {
		slices.Sort(some)
	}
	return l
}

// joined joins parts in any order, any two of those that there are, until one is left.
func joined(t *testing.T, r *rand.Rand, l []api.Part) api.Part {
	t.Helper()
	l = slices.Clone(l)
	for len(l) > 1 {
		r.Shuffle(len(l), func(a, b int) { l[a], l[b] = l[b], l[a] })
		x, e := part.Join(l[0], l[1])
		if e != api.OK {
			t.Fatalf("Join of %v and %v: %v", l[0].Rows, l[1].Rows, e)
		}
		l = append(l[2:], x)
	}
	return l[0]
}

// parts tells what Of tells of each list of rows.
func parts(t *testing.T, p api.Plan, params []api.Matrix, s api.Set, lists [][]int) []api.Part {
	t.Helper()
	var l []api.Part
	for _, rows := range lists {
		x, _, e := part.Of(p, params, s, rows)
		if e != api.OK {
			t.Fatalf("Of %v: %v", rows, e)
		}
		l = append(l, x)
	}
	return l
}

// wantOne wants all ways to deal rows out, and to join what they tell, to come to one part, and one answer of Close.
func wantOne(t *testing.T, r *rand.Rand, p api.Plan, params []api.Matrix, s api.Set, rows []int, ways int) {
	t.Helper()
	all := parts(t, p, params, s, [][]int{rows})[0]
	loss, grads, where, e := wantClose(t, "all rows", p, all)
	check := func(x api.Part) {
		t.Helper()
		got, l, at, f := part.Close(p, x)
		if !samePart(x, all) || got != loss || !sameAll(l, grads) || at != where || f != e {
			t.Errorf("%v: %x, %x, %v, %v, want %v: %x, %x, %v, %v", x, got, l, at, f, all, loss, grads, where, e)
		}
	}
	for range ways {
		check(joined(t, r, parts(t, p, params, s, dealt(r, rows, 1+r.Intn(min(len(rows), 9))))))
	}
	check(joined(t, r, parts(t, p, params, s, dealt(r, rows, len(rows))))) // Each row alone.
	for workers := range 4 {
		shards, _ := data.Shards(len(rows), workers+1)
		var lists [][]int
		for _, x := range shards {
			if x[0] < x[1] {
				lists = append(lists, rows[x[0]:x[1]])
			}
		}
		check(joined(t, r, parts(t, p, params, s, lists)))
	}
}

// TestP2006Mixed: rows of mixed plans.
func TestP2006Mixed(t *testing.T) {
	r := rand.New(rand.NewSource(2006))
	for _, w := range widths {
		for range 6 {
			count := 2 + r.Intn(30)
			rows := r.Perm(count)[:1+r.Intn(count)]
			slices.Sort(rows)
			wantOne(t, r, mixed(w), mixedParams(r, w), mixedSet(r, count, w), rows, 6)
		}
	}
}

// TestP2006Exact: rows whose sums no floats would tell.
func TestP2006Exact(t *testing.T) {
	r := rand.New(rand.NewSource(1))
	for _, w := range widths {
		p, params := linear(w)
		for _, c := range exactCases(w) {
			column := vals(len(c.losses), 1, w, c.losses...)
			wantOne(t, r, p, params, api.Set{X: column, Y: column}, upTo(len(c.losses)), 5)
		}
		for range 5 { // Floats of all sizes.
			m := matrix(40, 1, w)
			for len(m.Bits) < 40 {
				if b := int(r.Uint64() >> (64 - w)); refusal(b, w) == api.OK {
					m.Bits = append(m.Bits, b)
				}
			}
			wantOne(t, r, p, params, api.Set{X: m, Y: m}, upTo(40), 5)
		}
	}
}

// TestP2006Exchanged: exchanging the rows of a set turns nothing but their numbers.
func TestP2006Exchanged(t *testing.T) {
	r := rand.New(rand.NewSource(2))
	for _, w := range widths {
		p, params, s := mixed(w), mixedParams(r, w), mixedSet(r, 20, w)
		want := parts(t, p, params, s, [][]int{upTo(20)})[0]
		for range 10 {
			picked, _ := data.Pick(s, r.Perm(20))
			if got := parts(t, p, params, picked, [][]int{upTo(20)})[0]; !samePart(got, want) {
				t.Errorf("%v, want %v", got, want)
			}
		}
	}
}

// TestP2006Beyond: more rows than a batch may have can be joined, and closed.
func TestP2006Beyond(t *testing.T) {
	r := rand.New(rand.NewSource(3))
	for _, w := range widths {
		p, params := linear(w)
		s := api.Set{X: some(r, 600, 1, w), Y: some(r, 600, 1, w)}
		all := upTo(600)
		one := joined(t, r, parts(t, p, params, s, [][]int{all[:256], all[256:400], all[400:]}))
		other := joined(t, r, parts(t, p, params, s, dealt(r, all, 40)))
		loss, grads, _, e := wantClose(t, "600 rows", p, one)
		got, l, _, f := part.Close(p, other)
		if !samePart(one, other) || e != api.OK || f != api.OK || got != loss || !sameAll(l, grads) {
			t.Errorf("%x, %x, %v, want %x, %x, %v", got, l, f, loss, grads, e)
		}
	}
}

// TestP2006Refused: a batch whose gradient is too great is refused alike, however it is dealt out.
func TestP2006Refused(t *testing.T) {
	r := rand.New(rand.NewSource(4))
	for _, w := range widths {
		p := planOf(3, 5, input(0, 1, 1, w), input(1, 1, 1, w), param(0, 1, 1, w), takes(api.OpMul, 0, 2), param(1, 1, 1, otherOf(w)), constant(vals(1, 1, w, 2)))
		params := []api.Matrix{vals(1, 1, w, 1), vals(1, 1, otherOf(w), 1)}
		great := value(greatestOf(w), w)
		s := api.Set{X: vals(4, 1, w, great, great, great, 1), Y: vals(4, 1, w, 0, 0, 0, 0)}
		p.Loss = 3
		wantOne(t, r, p, params, s, upTo(4), 4)
		// A part by itself may be one that no rows tell: then Close refuses what the sum says.
		x := parts(t, p, params, s, [][]int{{0, 1}})[0]
		y := parts(t, p, params, s, [][]int{{2, 3}})[0]
		y.Grads[0][0].Plus = true
		z, e := wantJoin(t, "with what is infinite", x, y)
		if e != api.OK {
			t.Fatal(e)
		}
		wantOpen(t, "with what is infinite", p, z, api.Where{Kind: api.InGrad}, api.ErrInf)
	}
}
