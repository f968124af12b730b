package start_test

import (
	"math"
	"math/bits"
	"testing"

	"pupil/api"
	"pupil/rng"
	"pupil/start"
)

// toInf is the least binary64 that width 32 rounds to infinity.
const toInf = 0x47EFFFFFF0000000

// numbers are binary64 of all sizes, the finite ones' ends and those that width 32 rounds at an edge.
func numbers() []int {
	l := []int{0, minus}
	for _, b := range []int{1, 2, 3, 0x000FFFFFFFFFFFFF, 0x0010000000000000, api.Inf - 1, api.Inf - 2, toInf, toInf - 1, toInf + 1,
		bitsOf(1), bitsOf(0.1), bitsOf(3), bitsOf(1. / 3), bitsOf(1e300), bitsOf(1e-300), bitsOf(0x1p-149), bitsOf(0x1p-150), bitsOf(0x1p-150) + 1, bitsOf(0x3p-150), bitsOf(0x1p-126), bitsOf(0x1p127), bitsOf(0x1p128),
		bitsOf(1 + 0x1p-24), bitsOf(1 + 0x3p-24), bitsOf(1+0x1p-24) + 1, bitsOf(math.MaxFloat32)} {
		l = append(l, b, b|minus)
	}
	return l
}

// inits tells Inits of a kind whose numbers are right, all alike but for these.
func inits(kind, rows, cols, width int) []api.Init {
	plain := api.Init{Kind: kind, Rows: rows, Cols: cols, Width: width}
	if kind == api.InitZero || kind == api.InitGlorot || kind == api.InitHe {
		return []api.Init{plain}
	}
	var l []api.Init
	for _, a := range numbers() {
		x := plain
		x.A = a
		if kind != api.InitUniform {
			l = append(l, x)
			continue
		}
		for _, b := range numbers() {
			if x.B = b; refusal(x) == api.OK {
				l = append(l, x)
			}
		}
	}
	return l
}

var shapes = [][2]int{{1, 1}, {1, 5}, {4, 1}, {2, 3}, {3, 2}}

// TestP1601Elements: of each kind every element, in both widths, with numbers of all sizes.
func TestP1601Elements(t *testing.T) {
	for _, kind := range kinds {
		for _, width := range widths {
			made, refused := 0, 0
			for i, s := range shapes {
				for j, x := range inits(kind, s[0], s[1], width) {
					switch held(t, x, places[(i+j)%len(places)], places[(i+2*j+3)%len(places)]) {
					case api.OK:
						made++
					case api.ErrInf:
						refused++
					}
				}
			}
			may := kind == api.InitNormal || width == 32 && (kind == api.InitConst || kind == api.InitUniform)
			if made == 0 || may != (refused > 0) {
				t.Errorf("kind %d, width %d: %d made, %d refused", kind, width, made, refused)
			}
		}
	}
}

// TestP1601Seeds: of each kind with all seeds and streams.
func TestP1601Seeds(t *testing.T) {
	for _, kind := range kinds {
		for _, width := range widths {
			for _, s := range [][2]int{{1, 9}, {9, 1}, {5, 7}} {
				x := api.Init{Kind: kind, Rows: s[0], Cols: s[1], Width: width}
				if kind == api.InitConst || kind == api.InitUniform || kind == api.InitNormal {
					x.A = bitsOf(-0.7)
				}
				if kind == api.InitUniform {
					x.B = bitsOf(1.9)
				}
				for _, seed := range places {
					for _, stream := range places {
						if held(t, x, seed, stream) != api.OK {
							t.Errorf("%+v is refused", x)
						}
					}
				}
			}
		}
	}
}

// TestP1601Greatest: matrices of as many elements as there may be.
func TestP1601Greatest(t *testing.T) {
	for _, width := range widths {
		for _, s := range [][2]int{{1, 4096}, {4096, 1}, {819, 5}} {
			held(t, api.Init{Kind: api.InitZero, Rows: s[0], Cols: s[1], Width: width}, 3, 4)
			held(t, api.Init{Kind: api.InitConst, Rows: s[0], Cols: s[1], Width: width, A: bitsOf(0.3)}, 3, 4)
			held(t, api.Init{Kind: api.InitUniform, Rows: s[0], Cols: s[1], Width: width, A: bitsOf(-1), B: bitsOf(0.3)}, 3, 4)
			held(t, api.Init{Kind: api.InitGlorot, Rows: s[0], Cols: s[1], Width: width}, 3, 4)
			held(t, api.Init{Kind: api.InitHe, Rows: s[0], Cols: s[1], Width: width}, 3, 4)
			held(t, api.Init{Kind: api.InitNormal, Rows: s[0], Cols: s[1], Width: width, A: bitsOf(0.3)}, 3, 4)
		}
	}
}

// TestP1601Draws: from 0 to 1 the elements are what chapter 6's Uniform tells, from the draw {seed, stream, 0} on, row by row.
func TestP1601Draws(t *testing.T) {
	for _, seed := range places {
		for _, stream := range places {
			d, at := api.Draw{Seed: seed, Stream: stream}, 0
			m := must(t, api.Init{Kind: api.InitUniform, Rows: 3, Cols: 4, Width: 64, B: bitsOf(1)}, seed, stream)
			n := must(t, api.Init{Kind: api.InitNormal, Rows: 4, Cols: 3, Width: 64, A: bitsOf(1)}, seed, stream)
			for i, b := range m.Bits {
				want, next, _ := rng.Uniform(d, 64)
				if d = next; b != want {
					t.Errorf("seed %d, stream %d: element %d is %x, want %x", seed, stream, i, b, want)
				}
			}
			for i, b := range n.Bits {
				parts := -6 << 53
				for range 12 {
					parts += int(uint64(rng.Word(api.Draw{Seed: seed, Stream: stream}, at)) >> 11)
					at++
				}
				if want := bitsOf(math.Ldexp(float64(parts), -53)); b != want {
					t.Errorf("seed %d, stream %d: normal element %d is %x, want %x", seed, stream, i, b, want)
				}
			}
		}
	}
}

// TestP1601Rows: rows and columns turn no element where the table does not name them, and fewer elements are the first ones.
func TestP1601Rows(t *testing.T) {
	for _, width := range widths {
		for _, x := range []api.Init{{Kind: api.InitUniform, A: bitsOf(-2), B: bitsOf(5)}, {Kind: api.InitNormal, A: bitsOf(0.01)}} {
			x.Width, x.Rows, x.Cols = width, 1, 24
			all := must(t, x, 5, 6).Bits
			for _, s := range [][2]int{{24, 1}, {4, 6}, {6, 4}, {2, 5}, {1, 1}, {7, 2}} {
				x.Rows, x.Cols = s[0], s[1]
				m := must(t, x, 5, 6)
				if !same(m, api.Matrix{Rows: s[0], Cols: s[1], Width: width, Bits: all[:s[0]*s[1]]}) {
					t.Errorf("%+v: %v, want the first of %v", x, m, all)
				}
			}
		}
	}
}

// TestP1601Draw: InitZero and InitConst take nothing from the draw: no seed and no stream turns them.
func TestP1601Draw(t *testing.T) {
	for _, width := range widths {
		for _, x := range []api.Init{{}, {Kind: api.InitConst, A: bitsOf(0.7)}, {Kind: api.InitConst, A: minus}} {
			x.Rows, x.Cols, x.Width = 2, 3, width
			want := rounded(value(x.A, 64), width)
			for _, seed := range places {
				for _, b := range must(t, x, seed, ^seed).Bits {
					if b != want {
						t.Errorf("%+v with the seed %d: %x, want %x", x, seed, b, want)
					}
				}
			}
		}
	}
}

// TestP1601Const: a constant is rounded once, to the nearest, of two the even one; what rounds to 0 is 0.
func TestP1601Const(t *testing.T) {
	for _, c := range []struct{ a, width, want int }{
		{minus, 64, 0}, {minus, 32, 0}, {1, 64, 1}, {1 | minus, 64, 1 | minus}, {1, 32, 0}, {1 | minus, 32, 0},
		{bitsOf(0x1p-150), 32, 0}, {bitsOf(-0x1p-150), 32, 0}, {bitsOf(0x1p-150) + 1, 32, 1}, {bitsOf(-0x3p-150), 32, 0x80000002},
		{bitsOf(1 + 0x1p-24), 32, 0x3F800000}, {bitsOf(1 + 0x3p-24), 32, 0x3F800002}, {bitsOf(1+0x1p-24) + 1, 32, 0x3F800001},
		{toInf - 1, 32, api.Inf32 - 1}, {api.Inf - 1, 64, api.Inf - 1}, {api.Inf - 1 | minus, 64, api.Inf - 1 | minus},
	} {
		m := must(t, api.Init{Kind: api.InitConst, Rows: 1, Cols: 1, Width: c.width, A: c.a}, 0, 0)
		if m.Bits[0] != c.want {
			t.Errorf("%x in width %d: %x, want %x", c.a, c.width, m.Bits[0], c.want)
		}
	}
}

// chosen are u, in 2^53rd parts, at edges: the seed is made so that the first one is it.
var chosen = []uint64{0, 1, 2, 1<<52 - 1, 1 << 52, 1<<52 + 1, 3 << 51, 1<<53 - 1, 1<<53 - 1<<28, 1<<53 - 1<<28 - 1}

// TestP1601ChosenDraws: the least u, the greatest one, the middle and those beside them, with numbers of all sizes.
func TestP1601ChosenDraws(t *testing.T) {
	for i, parts := range chosen {
		stream := places[i%len(places)]
		seed := seedOf(parts, stream)
		if word(seed, stream, 0)>>11 != parts {
			t.Fatalf("the seed %x does not tell %x", seed, parts)
		}
		for _, kind := range kinds {
			for _, width := range widths {
				for _, x := range inits(kind, 1, 1, width) {
					held(t, x, seed, stream)
				}
			}
		}
	}
}

// TestP1601Hand: what comes of a chosen u, by hand.
func TestP1601Hand(t *testing.T) {
	const half = 1 << 52
	for i, c := range []struct {
		x     api.Init
		parts uint64
		want  int
	}{
		{api.Init{Kind: api.InitUniform, Width: 64, A: bitsOf(-7), B: bitsOf(9)}, 0, bitsOf(-7)},
		{api.Init{Kind: api.InitUniform, Width: 64, A: bitsOf(-7), B: bitsOf(9)}, half, bitsOf(1)},
		{api.Init{Kind: api.InitUniform, Width: 64, A: bitsOf(-7), B: bitsOf(7)}, half, 0},
		{api.Init{Kind: api.InitUniform, Width: 64, A: -1<<63 | 1, B: 0}, half, 0},
		{api.Init{Kind: api.InitUniform, Width: 64, A: 0, B: 1}, half, 0},
		{api.Init{Kind: api.InitUniform, Width: 64, A: 0, B: 1}, half + 1, 1},
		{api.Init{Kind: api.InitUniform, Width: 64, A: 0, B: 3}, half, 2},
		{api.Init{Kind: api.InitUniform, Width: 64, A: api.Inf - 1 | minus, B: api.Inf - 1}, half, 0},
		{api.Init{Kind: api.InitUniform, Width: 64, A: api.Inf - 1 | minus, B: api.Inf - 1}, 0, api.Inf - 1 | minus},
		{api.Init{Kind: api.InitUniform, Width: 64, A: minus, B: 0}, half, 0},
		{api.Init{Kind: api.InitUniform, Width: 64, A: 0, B: minus}, half, 0},
		{api.Init{Kind: api.InitUniform, Width: 32, A: 0, B: bitsOf(1)}, 1<<53 - 1, 0x3F800000},
		{api.Init{Kind: api.InitUniform, Width: 32, A: bitsOf(-1e300), B: bitsOf(1e300)}, half, 0},
		{api.Init{Kind: api.InitUniform, Width: 32, A: 0, B: bitsOf(0x1p128)}, half, 0x7F000000},
		{api.Init{Kind: api.InitGlorot, Width: 64}, 0, bitsOf(-math.Sqrt(3))},
		{api.Init{Kind: api.InitGlorot, Width: 64}, half, 0},
		{api.Init{Kind: api.InitHe, Width: 64}, 0, bitsOf(-math.Sqrt(6))},
		{api.Init{Kind: api.InitHe, Width: 32}, half, 0},
	} {
		c.x.Rows, c.x.Cols = 1, 1
		if m := must(t, c.x, seedOf(c.parts, i), i); m.Bits[0] != c.want {
			t.Errorf("%d: %x, want %x", i, m.Bits[0], c.want)
		}
	}
}

// TestP1601Limits: L is the root of the exact quotient, rounded once, for all rows and columns; u 0 tells -L.
func TestP1601Limits(t *testing.T) {
	for _, width := range widths {
		twice := 0
		for n := 1; n <= api.MaxElems+1; n++ {
			want := limit(n, width)
			if got := start.RootOfSixBy(n, width); got != want {
				t.Errorf("the root of 6 by %d in width %d: %x, want %x", n, width, got, want)
			}
			if width == 64 && want != bitsOf(math.Sqrt(6/float64(n))) {
				twice++
			}
			if width == 32 && want != int(math.Float32bits(float32(math.Sqrt(float64(float32(6)/float32(n)))))) {
				twice++
			}
		}
		if twice < 100 {
			t.Errorf("only %d roots tell one rounding from two in width %d", twice, width)
		}
		seed := seedOf(0, 9)
		for _, s := range [][2]int{{1, 1}, {2, 1}, {1, 2}, {3, 3}, {5, 7}, {7, 5}, {1, 30}, {30, 1}, {64, 64}, {13, 315}, {315, 13}, {1, 4096}, {4096, 1}, {2, 2048}} {
			x := api.Init{Kind: api.InitGlorot, Rows: s[0], Cols: s[1], Width: width}
			if m := must(t, x, seed, 9); m.Bits[0] != limit(s[0]+s[1], width)|1<<(width-1) {
				t.Errorf("%+v: %x", x, m.Bits[0])
			}
			x.Kind = api.InitHe
			if m := must(t, x, seed, 9); m.Bits[0] != limit(s[0], width)|1<<(width-1) {
				t.Errorf("%+v: %x", x, m.Bits[0])
			}
		}
	}
}

// beside tells odd parts from 2^51 to below 2^52 whose product with an odd number of 24 bits lies beside the middle of two binary32, by less than a binary64 of it tells.
func beside(mag uint64) []uint64 {
	var l []uint64
	for r := uint64(1); r < 1<<7; r += 2 {
		v := (1<<51 + r) * inverse(mag) & (1<<52 - 1)
		if high, low := bits.Mul64(v, mag); v >= 1<<51 && bits.Len64(high) == 76-64 && low>>52&1 == 0 {
			l = append(l, v)
		}
	}
	return l
}

// TestP1601RoundedOnce: in width 32 the exact element is rounded, not one that was rounded to a binary64.
func TestP1601RoundedOnce(t *testing.T) {
	tried := 0
	for n := 1; n <= 40; n++ {
		l := limit(n, 32)
		mag := uint64(l&(1<<23-1) | 1<<23)
		if mag%2 == 0 {
			continue
		}
		f := float64(math.Float32frombits(uint32(l)))
		for _, v := range beside(mag) {
			for _, kind := range []int{api.InitHe, api.InitUniform} {
				// Of InitHe 2 u - 1 is v 2^-52, of InitUniform from 0 on u is v 2^-53.
				x, parts := api.Init{Kind: kind, Rows: n, Cols: 1, Width: 32}, v+1<<52
				if kind == api.InitUniform {
					x.B, parts = bitsOf(f), v
				}
				seed := seedOf(parts, n)
				held(t, x, seed, n)
				scale := -52
				if kind == api.InitUniform {
					scale = -53
				}
				again := int(math.Float32bits(float32(f * math.Ldexp(float64(v), scale))))
				if again == must(t, x, seed, n).Bits[0] {
					t.Errorf("%+v: rounded twice it is %x too", x, again)
				}
				tried++
			}
		}
	}
	if tried < 50 {
		t.Errorf("only %d elements tell one rounding from two", tried)
	}
}

// TestP1601LateInfinite: an element that comes out infinite behind finite ones refuses them all.
func TestP1601LateInfinite(t *testing.T) {
	late := map[int]int{}
	for seed := range 60 {
		for _, x := range []api.Init{
			{Kind: api.InitUniform, Width: 32, A: bitsOf(-0x1p127), B: bitsOf(0x1.4p128)},
			{Kind: api.InitUniform, Width: 32, A: bitsOf(-0x1.4p128), B: 0},
			{Kind: api.InitNormal, Width: 32, A: bitsOf(0x1p127)},
			{Kind: api.InitNormal, Width: 64, A: bitsOf(-0x1p1023)},
		} {
			x.Rows, x.Cols = 1, 1
			firstOne := held(t, x, seed, 0)
			x.Rows, x.Cols = 2, 3
			if held(t, x, seed, 0) == api.ErrInf && firstOne == api.OK {
				late[x.Kind+x.Width]++
			}
		}
	}
	if len(late) != 3 {
		t.Errorf("infinite behind a finite one: %v", late)
	}
}
