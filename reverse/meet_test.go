package reverse_test

import (
	"math/rand"
	"testing"

	"pupil/api"
	"pupil/reverse"
)

// brought is a tape of an input, a number, that many nodes take, each times a factor; the last node glues them.
func brought(width int, factors []float64) api.Tape {
	t := tapeOf(input(0, 1, 1, width))
	glue := takes(api.OpGlueCols)
	for _, f := range factors {
		n := len(t.Nodes)
		t = behind(t, constant(mat(1, 1, width, f)), takes(api.OpMul, 0, n))
		glue.In = append(glue.In, n+1)
	}
	return behind(t, glue)
}

// TestP1201Meet: what several nodes bring is one exact sum, rounded once: parts that are great and almost cancel, parts that are rounded half way.
func TestP1201Meet(t *testing.T) {
	for _, w := range widths {
		e, u, g := tiny[w], ulp[w], great[w]
		for _, c := range []struct{ factors, seed, want []float64 }{
			{row(1, 1, 1), row(0x1p60, 1, -0x1p60), row(1)},
			{row(0x1p60, 1, -0x1p60), row(1, 1, 1), row(1)},
			{row(0x1p60, 1+u, -0x1p60), row(0x1p60, 1, 0x1p60), row(1 + u)},
			{row(1+u, -1), row(1+u, 1), row(2*u + u*u)},   // rounding the square first would leave 2u
			{row(1+u, -1), row(1+u, 1+2*u), row(u * u)},   // and here nothing
			{row(1, 1), row(1, u/2), row(1)},              // half way, to the even one
			{row(1, 1), row(1+u, u/2), row(1 + 2*u)},      //
			{row(1, 1, 1), row(1, u/2, u*u), row(1 + u)},  // above half way
			{row(1, 1, 1), row(1, u/2, -u*u), row(1)},     // below it
			{row(4, 4, -4), row(g, g, g), row(inf)},       //
			{row(1, 1, -1), row(g, g, g), row(g)},         // beyond the greatest one, and back
			{row(4, -4), row(g, g), row(0)},               // each part is beyond it
			{row(0.5, 0.5), row(e, e), row(e)},            // each part is half of the least one
			{row(0.5, 0.25), row(e, e), row(e)},           //
			{row(0.25, 0.25), row(e, e), row(0)},          //
			{row(0.25, 0.25), row(-e, -e), row(0)},        // never -0
			{row(1, -1), row(1, 1), row(0)},               //
			{row(-1, 1), row(1, 1), row(0)},               //
			{row(e, 1, -e), row(e, 1, e), row(1)},         //
			{row(e, 1, u/2), row(e, 1, 1), row(1 + u)},    // a product far below the least one turns a half
			{row(-e, 1, u/2), row(e, 1, 1), row(1)},       //
			{row(-e, 1+u, u/2), row(e, 1, 1), row(1 + u)}, //
		} {
			made := brought(w, c.factors)
			values := valuesOf(t, made, list(mat(1, 1, w, 0)), nil)
			last := len(made.Nodes) - 1
			got, f := reverse.Run(made, values, last, mat(1, len(c.seed), w, c.seed...))
			want := mat(1, 1, w, c.want...)
			if f != unfinite(want, 0) || f == (api.Fault{}) && !same(got[0], want) {
				t.Errorf("width %d: %v times %v: %x %v, want %x", w, c.factors, c.seed, got, f, want)
			}
		}
	}
}

// TestP1201Brackets: a quotient is rounded to the node's width ahead of the sum: many of them are the sum of what was rounded.
func TestP1201Brackets(t *testing.T) {
	for _, width := range widths {
		shows := 0
		for n := 2; n < 60; n++ {
			mean, glue := takes(api.OpMean, 1), takes(api.OpGlueCols)
			for range n {
				glue.In = append(glue.In, 0)
			}
			made := tapeOf(input(0, 1, 1, width), glue, mean)
			values := valuesOf(t, made, list(mat(1, 1, width, 3)), nil)
			share := mat(1, 1, width, quot(1, float64(n), width)).Bits[0]
			want := rounded(times(whole(n), ratio(share, width)), width)
			seed := mat(1, 1, width, 1)
			if want != seed.Bits[0] {
				shows++
			}
			got, f := reverse.Run(made, values, 2, seed)
			if f != (api.Fault{}) || got[0].Bits[0] != want || got[1].Bits[0] != share {
				t.Fatalf("a mean of %d: %x %v, want %x", n, got, f, want)
			}
		}
		if shows < 1 {
			t.Errorf("width %d: no mean would show a sum that is not rounded ahead", width)
		}
		wantRounded(t, width, tapeOf(input(0, 1, 1, width), takes(api.OpLog, 0), takes(api.OpLog, 0), takes(api.OpLog, 0), takes(api.OpGlueCols, 1, 2, 3)))
		wantRounded(t, width, tapeOf(input(0, 1, 1, width), takes(api.OpSqrt, 0), takes(api.OpSqrt, 0), takes(api.OpSqrt, 0), takes(api.OpGlueCols, 1, 2, 3)))
		wantRounded(t, width, tapeOf(input(0, 1, 1, width), constant(mat(1, 3, width, 3, 7, 11)), takes(api.OpDiv, 1, 0), takes(api.OpNeg, 2), takes(api.OpNeg, 3)))
		wantRounded(t, width, tapeOf(input(0, 1, 1, width), constant(mat(1, 3, width, 3, 7, 11)), takes(api.OpDiv, 0, 1), takes(api.OpNeg, 2), takes(api.OpNeg, 3)))
	}
}

// wantRounded goes back over a tape whose last node is 1 by 3 and whose input is a number, and wants some quotients to show that they are rounded by themselves.
func wantRounded(t *testing.T, width int, made api.Tape) {
	t.Helper()
	r := rand.New(rand.NewSource(12))
	shows := 0
	for range 300 {
		x := near(r, 1, 1, width)
		x.Bits[0] &= 1<<(width-1) - 1
		values := valuesOf(t, made, list(x), nil)
		a, b := near(r, 1, 1, width), near(r, 1, 1, width)
		seed := mat(1, 3, width, float(a.Bits[0], width), float(b.Bits[0], width), -float(a.Bits[0], width)-float(b.Bits[0], width)*(1-0x1p-12))
		want, f := runOf(made, values, 4, seed)
		wantRun(t, "brackets", made, values, 4, seed, want, f)
		if other, _ := runExactly(made, values, 4, seed); other[0].Bits[0] != want[0].Bits[0] {
			shows++
		}
	}
	if shows < 50 {
		t.Errorf("%d show", shows)
	}
}

// TestP1201Widths: where both widths meet in one sum, it is exact, and rounded to the width of the node that is brought it.
func TestP1201Widths(t *testing.T) {
	narrow := tapeOf(input(0, 1, 1, 64), takes(api.OpNarrow, 0), takes(api.OpWide, 1), takes(api.OpGlueCols, 0, 2), takes(api.OpSum, 3))
	values := valuesOf(t, narrow, list(mat(1, 1, 64, 3)), nil)
	for _, c := range [][3]float64{
		{1, 1 + 0x1p-24, 2}, {0x1p-52, 1 + 0x1p-24, 1 + 0x1p-52}, {-1, 1 + 0x1p-24 + 0x1p-52, 0x1p-23}, {0x1p-60, 0x1p-150, 0x1p-60}, {1, -0x1p-149, 1}, {-0x1p-149, 0x1p-149, 0},
	} {
		got, f := reverse.Run(narrow, values, 3, mat(1, 2, 64, c[0], c[1]))
		if f != (api.Fault{}) || !same(got[0], mat(1, 1, 64, c[2])) || !same(got[1], mat(1, 1, 32, c[1])) {
			t.Errorf("narrowed: %x %v, want %v", got, f, c)
		}
	}
	wide := tapeOf(input(0, 1, 1, 32), takes(api.OpWide, 0), takes(api.OpGlueCols, 1, 1, 1), takes(api.OpNarrow, 1), takes(api.OpWide, 0), takes(api.OpGlueCols, 4, 1, 4))
	values = valuesOf(t, wide, list(mat(1, 1, 32, 3)), nil)
	for _, c := range []struct{ seed, want []float64 }{
		{row(1, 0x1p-24, 0), row(1, 1)}, // 1 and 2^-24 meet at a number of width 32 that is told by two of width 64
		{row(1, 0x1p-24, 0x1p-52), row(1+0x1p-52, 1+0x1p-23)},
		{row(0x1p127, 0x1p127, -0x1p127), row(0, 0x1p127)},
		{row(0x1p200, -0x1p200, 0), row(0x1p200, 0)},
		{row(0x1p200, 0x1p-24, -0x1p200), row(0, 0x1p-24)},
	} {
		got, f := reverse.Run(wide, values, 5, mat(1, 3, 64, c.seed...))
		if f != (api.Fault{}) || !same(got[4], mat(1, 1, 64, c.want[0])) || !same(got[1], mat(1, 1, 64, c.seed[1])) || !same(got[0], mat(1, 1, 32, c.want[1])) {
			t.Errorf("widened: %x %v, want %v", got, f, c)
		}
	}
	wantRun(t, "beyond width 32", wide, values, 5, mat(1, 3, 64, 0x1p200, 0, 0), nil, api.Fault{Err: api.ErrInf})
	wantRun(t, "finite in width 64", wide, values, 1, mat(1, 1, 64, -0x1p128), nil, api.Fault{Err: api.ErrInf})
}

// TestP1201Taken: a node that many take, each with its own weight.
func TestP1201Taken(t *testing.T) {
	r := rand.New(rand.NewSource(13))
	for _, width := range widths {
		made := tapeOf(input(0, 2, 2, width))
		glue := takes(api.OpGlueRows)
		for i := range 200 {
			made = behind(made, constant(steep(r, 1, 2, width)), takes(api.OpMul, 0, 1+2*i))
			glue.In = append(glue.In, 2+2*i)
		}
		made = behind(made, glue)
		values := valuesOf(t, made, list(near(r, 2, 2, width)), nil)
		for _, g := range kinds {
			seed := g(r, 400, 2, width)
			want, f := runOf(made, values, 401, seed)
			wantRun(t, "many", made, values, 401, seed, want, f)
		}
		if got, f := reverse.Run(brought(width, make([]float64, 500)), valuesOf(t, brought(width, make([]float64, 500)), list(mat(1, 1, width, 1)), nil), 1001, mat(1, 500, width, make([]float64, 500)...)); f != (api.Fault{}) || len(got) != 1002 {
			t.Errorf("a node that 500 take: %v", f)
		}
	}
}

// TestP1202Brought: an element to which something infinite, or no number, is brought has what chapter 3's sums tell of it.
func TestP1202Brought(t *testing.T) {
	for _, w := range widths {
		g, e := great[w], tiny[w]
		// To x: from 2 and 3 quotients by the least one, from 5 half of its root (x is 0), from 6 the seed itself.
		made := tapeOf(input(0, 1, 1, w), constant(mat(1, 1, w, e)), takes(api.OpDiv, 0, 1), takes(api.OpDiv, 0, 1), takes(api.OpNeg, 0), takes(api.OpSqrt, 0), takes(api.OpNeg, 4), takes(api.OpGlueCols, 2, 3, 6), takes(api.OpGlueCols, 2, 3, 6, 5))
		values := valuesOf(t, made, list(mat(1, 1, w, 0)), nil)
		for _, c := range []struct {
			node int
			seed []float64
			want api.Errno
		}{
			{7, row(g, 0, 0), api.ErrInf},
			{7, row(-g, 0, -g), api.ErrInf},
			{7, row(g, 0, -g), api.ErrInf}, // what is finite beside it turns nothing
			{7, row(g, g, 0), api.ErrInf},
			{7, row(-g, -g, 0), api.ErrInf},
			{7, row(g, -g, 0), api.ErrNaN},
			{7, row(-g, g, 1), api.ErrNaN},
			{7, row(0, 0, g), api.OK},
			{8, row(0, 0, 0, 0), api.ErrNaN},
			{8, row(g, 0, 0, 0), api.ErrNaN},
			{8, row(0, 0, 0, e), api.ErrInf},
			{8, row(0, 0, 0, -e), api.ErrInf},
			{8, row(g, 0, 0, 1), api.ErrInf},
			{8, row(-g, 0, 0, -1), api.ErrInf},
			{8, row(g, 0, 0, -1), api.ErrNaN},
			{8, row(g, -g, 0, 1), api.ErrNaN},
		} {
			_, f := reverse.Run(made, values, c.node, mat(1, len(c.seed), w, c.seed...))
			if f != (api.Fault{Err: c.want}) {
				t.Errorf("width %d, %v at node %d: %v, want %v", w, c.seed, c.node, f, c.want)
			}
		}
	}
}

// TestP1202Stretched: infinite ones of both signs that come to one element from its own node, and to others from one sign alone.
func TestP1202Stretched(t *testing.T) {
	for _, w := range widths {
		made := tapeOf(input(0, 2, 1, w), constant(mat(1, 2, w, tiny[w], -tiny[w])), takes(api.OpDiv, 0, 1))
		values := valuesOf(t, made, list(mat(2, 1, w, 0, 0)), nil)
		g := great[w]
		for _, c := range []struct {
			seed []float64
			want api.Fault
		}{
			{row(g, g, 0, 0), api.Fault{Err: api.ErrNaN}},
			{row(g, -g, 0, 0), api.Fault{Err: api.ErrInf}},
			{row(0, 0, g, g), api.Fault{Err: api.ErrNaN, At: 1}},
			{row(0, 0, -g, 1), api.Fault{Err: api.ErrInf, At: 1}},
			{row(g, 0, g, g), api.Fault{Err: api.ErrInf}},
			{row(g, g, g, 0), api.Fault{Err: api.ErrNaN}},
		} {
			wantRun(t, "stretched", made, values, 2, mat(2, 2, w, c.seed...), nil, c.want)
		}
	}
}
