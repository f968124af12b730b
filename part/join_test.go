package part_test

import (
	"math/big"
	"math/rand"
	"slices"
	"strconv"
	"testing"

	"pupil/api"
	"pupil/part"
)

// badSums are sums in no form; goodSums are such at the edges.
func badSums() []api.Acc {
	var l []api.Acc
	for _, x := range []api.Num{
		{Neg: true}, {Exp: 1}, {Exp: -1}, {Neg: true, Exp: lowest}, {Mag: []int{0}}, {Mag: []int{2}}, {Mag: []int{1, 0}}, {Mag: []int{0, 1}}, {Mag: []int{1, 5, 0}},
		{Mag: []int{-1}}, {Mag: []int{1<<30 + 1}}, {Mag: []int{1, 1 << 30}}, {Mag: []int{1, -1, 1}}, {Mag: []int{lowest + 1}}, {Mag: []int{highest}}, {Mag: []int{1, lowest, 3}},
		{Mag: []int{1}, Exp: api.MaxExp + 1}, {Mag: []int{1}, Exp: -api.MaxExp - 1}, {Mag: []int{1}, Exp: highest}, {Mag: []int{1}, Exp: lowest}, {Mag: slices.Repeat([]int{1}, api.MaxDigits+1)},
	} {
		l = append(l, api.Acc{Sum: x}, api.Acc{Sum: x, Plus: true}, api.Acc{Sum: x, Minus: true, None: true})
	}
	return l
}

func goodSums() []api.Acc {
	long := api.Num{Mag: slices.Repeat([]int{1<<30 - 1}, api.MaxDigits), Exp: -api.MaxExp}
	var l []api.Acc
	for _, x := range []api.Num{{}, {Mag: []int{1}}, {Neg: true, Mag: []int{3}, Exp: -1}, {Mag: []int{1}, Exp: api.MaxExp}, {Neg: true, Mag: []int{1}, Exp: -api.MaxExp}, {Mag: []int{1, 0, 1}}, long} {
		l = append(l, api.Acc{Sum: x}, api.Acc{Sum: x, Plus: true}, api.Acc{Sum: x, Minus: true}, api.Acc{Sum: x, None: true}, api.Acc{Sum: x, Plus: true, Minus: true, None: true})
	}
	return l
}

// sumOf makes some sum: a number of any size, now and then beside what is not finite.
func sumOf(r *rand.Rand) api.Acc {
	n := new(big.Int).Rand(r, new(big.Int).Lsh(big.NewInt(1), uint(r.Intn(400))))
	if r.Intn(2) == 0 {
		n.Neg(n)
	}
	a := power{n, r.Intn(4000) - 2000}.acc()
	if r.Intn(8) == 0 {
		a.Plus, a.Minus, a.None = r.Intn(2) == 0, r.Intn(2) == 0, r.Intn(2) == 0
	}
	return a
}

// filled makes a part of these rows, with sums as many as are said.
func filled(r *rand.Rand, rows []int, counts ...int) api.Part {
	x := api.Part{Rows: rows, Loss: sumOf(r)}
	for _, n := range counts {
		var l []api.Acc
		for range n {
			l = append(l, sumOf(r))
		}
		x.Grads = append(x.Grads, l)
	}
	return x
}

// cloned makes the same, in memory of its own.
func cloned(x api.Part) api.Part {
	digits := func(a api.Acc) api.Acc {
		a.Sum.Mag = slices.Clone(a.Sum.Mag)
		return a
	}
	c := api.Part{Rows: slices.Clone(x.Rows), Loss: digits(x.Loss)}
	for _, l := range x.Grads {
		var sums []api.Acc
		for _, a := range l {
			sums = append(sums, digits(a))
		}
		c.Grads = append(c.Grads, sums)
	}
	return c
}

// badRows are rows of parts that are not in form; goodRows such at the edges.
func badRows() [][]int {
	l := [][]int{nil, {}, {1, 0}, {0, 0}, {5, 6, 6}, {5, 7, 6, 8}, {4095, 4095}, {4095, 0}, {-1}, {-1, 0}, {-2, -1}, {0, -1}, {4096}, {0, 4096}, {0, 5, 4097}, {4096, 4097}, append(upTo(4096), 4096), append([]int{-1}, upTo(4096)...), make([]int, 5000)}
	for _, n := range ends {
		l = append(l, []int{n}, []int{0, n}, []int{n, 0}, []int{1, n, 2})
	}
	return l
}

var goodRows = [][]int{{0}, {4095}, {0, 4095}, {1, 2, 3}, {7, 100, 4000}, upTo(257), upTo(4096)[1000:], upTo(4096)}

// spoilt makes, of a part, all that are not in form in one way.
func spoilt(x api.Part) []api.Part {
	var l []api.Part
	for _, rows := range badRows() {
		c := cloned(x)
		c.Rows = rows
		l = append(l, c)
	}
	for _, bad := range badSums() {
		c := cloned(x)
		c.Loss = bad
		l = append(l, c)
		for i := range x.Grads {
			for k := range x.Grads[i] {
				c = cloned(x)
				c.Grads[i][k] = bad
				l = append(l, c)
			}
		}
	}
	return l
}

// TestP2003Form: which parts are in form, as Join and Close tell it.
func TestP2003Form(t *testing.T) {
	r := rand.New(rand.NewSource(2003))
	p := planOf(0, 0, param(1, 1, 3, 64), param(0, 1, 1, 32))
	good := filled(r, []int{9, 11}, 1, 3)
	for i, x := range spoilt(filled(r, []int{3, 10, 500}, 1, 3)) {
		name := "spoilt " + strconv.Itoa(i)
		wantNoJoin(t, name, x, good, api.ErrArg)
		wantNoJoin(t, name, x, x, api.ErrArg)
		wantNoJoin(t, name, x, filled(r, []int{2}), api.ErrArg)
		wantOpen(t, name, p, x, api.Where{}, api.ErrArg)
		if inFormOf(x) {
			t.Errorf("%s: the words say that it is in form", name)
		}
	}
	for _, rows := range goodRows {
		x := filled(r, rows)
		if _, e := part.Join(x, x); e != api.ErrRow {
			t.Errorf("%d rows: %v", len(rows), e)
		}
		wantClose(t, "rows", planOf(0, 0, constant(vals(1, 1, 64, 1))), x)
	}
	for i, a := range goodSums() {
		for _, x := range []api.Part{{Rows: []int{1}, Loss: a, Grads: [][]api.Acc{{{}}, {{}, {}, {}}}}, {Rows: []int{1}, Grads: [][]api.Acc{{a}, {{}, a, {}}}}} {
			b := api.Part{Rows: []int{0}, Grads: [][]api.Acc{{{}}, {{}, {}, {}}}}
			want := cloned(x)
			want.Rows = []int{0, 1}
			if got, e := wantJoin(t, "sum "+strconv.Itoa(i), x, b); e != api.OK || !samePart(got, want) {
				t.Errorf("sum %d: %v, %v", i, got, e)
			}
			wantClose(t, "sum "+strconv.Itoa(i), p, x)
		}
	}
}

// TestP2004Shape: as many lists, each as long; the error comes behind those of parts in no form, and ahead of all others.
func TestP2004Shape(t *testing.T) {
	r := rand.New(rand.NewSource(2004))
	counts := [][]int{{}, {0}, {1}, {2}, {0, 0}, {1, 2}, {2, 1}, {1, 2, 3}, {1, 3, 2}, {1, 2, 4}, {2, 2, 3}, {1, 2, 3, 0}, {4096}, {4095}}
	far := api.Acc{Sum: api.Num{Mag: []int{1}, Exp: api.MaxExp}}
	for i, a := range counts {
		for k, b := range counts {
			for _, rows := range [][]int{{4, 6}, {0, 5}} { // Of both, of one.
				x, y := filled(r, []int{0, 5}, a...), filled(r, rows, b...)
				x.Loss, y.Loss = far, far
				e := api.ErrShape
				if i == k {
					e = map[int]api.Errno{4: api.ErrLong, 0: api.ErrRow}[rows[0]]
				}
				wantNoJoin(t, "shapes", x, y, e)
				x.Rows = nil
				wantNoJoin(t, "shapes, and no rows", x, y, api.ErrArg)
			}
		}
	}
	none, empty := api.Part{Rows: []int{1}}, api.Part{Rows: []int{2}, Grads: [][]api.Acc{}}
	if got, e := wantJoin(t, "no lists", none, empty); e != api.OK || len(got.Grads) != 0 {
		t.Errorf("no lists: %v, %v", got, e)
	}
	none.Grads, empty.Grads = [][]api.Acc{nil}, [][]api.Acc{{}}
	if got, e := wantJoin(t, "an empty list", none, empty); e != api.OK || len(got.Grads) != 1 {
		t.Errorf("an empty list: %v, %v", got, e)
	}
}

// TestP2004Rows: parts that lie one in another, one behind the other, either way round; rows that are in both.
func TestP2004Rows(t *testing.T) {
	r := rand.New(rand.NewSource(1))
	all := upTo(4096)
	var even, odd []int
	for _, n := range all {
		if n%2 == 0 {
			even = append(even, n)
		} else {
			odd = append(odd, n)
		}
	}
	for _, c := range [][2][]int{
		{{0}, {1}}, {{0}, {4095}}, {{0, 1}, {2, 3}}, {{0, 9}, {4, 5}}, {{0, 5, 9}, {1, 6, 10}}, {{3, 4, 5}, {0, 1, 2, 6}}, {{7}, {1, 2, 3, 9}}, {{0, 2, 4}, {1, 3}}, {{10, 20}, {5}},
		{even, odd}, {all[:2048], all[2048:]}, {all[1:], all[:1]}, {all[:4095], all[4095:]}, {slices.Concat(all[:100], all[300:]), all[100:300]}, {all[:200], all[200:400]},
	} {
		want := slices.Concat(c[0], c[1])
		slices.Sort(want)
		got, e := wantJoin(t, "apart", filled(r, c[0], 1), filled(r, c[1], 1))
		if e != api.OK || !slices.Equal(got.Rows, want) {
			t.Errorf("%v: %v", got.Rows, e)
		}
	}
	for _, c := range [][2][]int{
		{{0}, {0}}, {{4095}, {4095}}, {{0, 1}, {1, 2}}, {{0, 5}, {5}}, {{0, 5, 9}, {9, 10}}, {{1, 2, 3, 4}, {0, 4}}, {{0, 9}, {0, 1}}, {{1, 2, 3}, {1, 2, 3}}, {{2, 4, 6, 8}, {1, 3, 6, 7}}, {{0, 100}, {50, 100}},
		{all, {17}}, {all, all}, {even, {1, 3, 4}}, {all[:2049], all[2048:]},
	} {
		wantNoJoin(t, "in both", filled(r, c[0], 2), filled(r, c[1], 2), api.ErrRow)
		x, y := filled(r, c[0], 2), filled(r, c[1], 2)
		x.Grads[0][1].Sum, y.Grads[0][1].Sum = api.Num{Mag: []int{1}, Exp: api.MaxExp}, api.Num{Mag: []int{1}, Exp: -api.MaxExp}
		wantNoJoin(t, "in both, and too long", x, y, api.ErrRow)
	}
}

// TestP2004Long: sums that get too long, wherever they stand.
func TestP2004Long(t *testing.T) {
	one := func(exp int) api.Num { return api.Num{Mag: []int{1}, Exp: exp} }
	full := api.Num{Mag: slices.Repeat([]int{1<<30 - 1}, api.MaxDigits)}
	less := full
	less.Neg = true
	r := rand.New(rand.NewSource(3))
	for i, c := range []struct {
		a, b api.Num
		ok   bool
	}{
		{one(api.MaxExp), one(api.MaxExp), false}, {one(api.MaxExp), one(-api.MaxExp), false}, {one(api.MaxExp), one(0), false}, {one(60000), one(0), false}, {full, one(60000), false}, {full, one(-1), false},
		{one(59999), one(0), true}, {full, one(0), true}, {full, less, true}, {less, one(0), true}, {one(-api.MaxExp), one(-api.MaxExp), true}, {one(api.MaxExp), one(api.MaxExp - 59999), true}, {one(api.MaxExp), api.Num{}, true}, {full, full, true},
	} {
		for place := range 5 { // The loss, and four elements.
			x, y := filled(r, []int{1}, 2, 0, 2), filled(r, []int{0, 2}, 2, 0, 2)
			at := func(x *api.Part) *api.Acc {
				return []*api.Acc{&x.Loss, &x.Grads[0][0], &x.Grads[0][1], &x.Grads[2][0], &x.Grads[2][1]}[place]
			}
			*at(&x), *at(&y) = api.Acc{Sum: c.a}, api.Acc{Sum: c.b, Plus: true}
			if _, e := wantJoin(t, "case "+strconv.Itoa(i), x, y); (e == api.OK) != c.ok {
				t.Errorf("case %d: %v", i, e)
			}
			if !c.ok {
				wantNoJoin(t, "case "+strconv.Itoa(i), x, y, api.ErrLong)
			}
		}
	}
}

// TestP2004Sums: sums of all sizes, and what is not finite of them.
func TestP2004Sums(t *testing.T) {
	r := rand.New(rand.NewSource(4))
	for range 300 {
		rows := r.Perm(60)[:2+r.Intn(58)]
		cut := 1 + r.Intn(len(rows)-1)
		a, b := slices.Clone(rows[:cut]), slices.Clone(rows[cut:])
		slices.Sort(a)
		slices.Sort(b)
		var counts []int
		for range r.Intn(5) {
			counts = append(counts, r.Intn(7))
		}
		x, y := filled(r, a, counts...), filled(r, b, counts...)
		if r.Intn(3) == 0 { // What one has the other one takes away.
			for i := range x.Grads {
				for k, s := range x.Grads[i] {
					s = cloned(api.Part{Loss: s}).Loss
					s.Sum.Neg = !s.Sum.Neg && len(s.Sum.Mag) > 0
					y.Grads[i][k] = s
				}
			}
		}
		if _, e := wantJoin(t, "mixed", x, y); e != api.OK {
			t.Errorf("%v", e)
		}
	}
	flags := func(n int) api.Acc { return api.Acc{Plus: n&1 > 0, Minus: n&2 > 0, None: n&4 > 0} }
	for i := range 8 {
		for k := range 8 {
			x, y := api.Part{Rows: []int{0}, Loss: flags(i), Grads: [][]api.Acc{{flags(k)}}}, api.Part{Rows: []int{1}, Loss: flags(k), Grads: [][]api.Acc{{{}}}}
			got, e := wantJoin(t, "not finite", x, y)
			if want := (api.Part{Rows: []int{0, 1}, Loss: flags(i | k), Grads: [][]api.Acc{{flags(k)}}}); e != api.OK || !samePart(got, want) {
				t.Errorf("%v, %v", got, e)
			}
		}
	}
}
