package reverse_test

import (
	"math/rand"
	"slices"
	"testing"

	"pupil/api"
	"pupil/eval"
	"pupil/reverse"
)

// mixed tells a tape with its nodes in another order, each behind those that it takes, and the new number of each node.
func mixed(r *rand.Rand, t api.Tape) (api.Tape, []int) {
	var made api.Tape
	now := slices.Repeat([]int{-1}, len(t.Nodes))
	for len(made.Nodes) < len(t.Nodes) {
		i := r.Intn(len(t.Nodes))
		if now[i] >= 0 || slices.ContainsFunc(t.Nodes[i].In, func(k int) bool { return now[k] < 0 }) {
			continue
		}
		n := t.Nodes[i]
		n.In = nil
		for _, k := range t.Nodes[i].In {
			n.In = append(n.In, now[k])
		}
		now[i] = len(made.Nodes)
		made.Nodes = append(made.Nodes, n)
	}
	return made, now
}

// TestP1204Order: nodes that do not hang on one another in another order turn no adjoint.
func TestP1204Order(t *testing.T) {
	done, turned := 0, 0
	for seed := range int64(150) {
		r := rand.New(rand.NewSource(seed))
		made := grown(r, 25)
		inputs, params := fill(r, made)
		values, f := eval.Run(made, inputs, params)
		if f != (api.Fault{}) {
			continue
		}
		for range 4 {
			node := r.Intn(len(values))
			g := kinds[1+r.Intn(2)](r, values[node].Rows, values[node].Cols, values[node].Width)
			want, f := reverse.Run(made, values, node, g)
			other, now := mixed(r, made)
			got, h := reverse.Run(other, valuesOf(t, other, inputs, params), now[node], g)
			if (f.Err == api.OK) != (h.Err == api.OK) {
				t.Fatalf("%v, in another order %v", f, h)
			}
			if f.Err != api.OK {
				continue
			}
			done++
			for i, m := range want {
				if now[i] != i {
					turned++
				}
				if !same(got[now[i]], m) {
					t.Fatalf("node %d: %x, in another order %x", i, m, got[now[i]])
				}
			}
		}
	}
	if done < 150 || turned < 1000 {
		t.Errorf("%d are held, %d nodes have another number", done, turned)
	}
}

// TestP1204Parts: whatever the order of those that take a node, great parts that cancel leave the same.
func TestP1204Parts(t *testing.T) {
	for _, width := range widths {
		r := rand.New(rand.NewSource(15))
		factors := row(0x1p60, 1, -0x1p60, ulp[width]/2, 0x1p100, -0x1p100, 3*tiny[width])
		want := 0
		for turn := range 50 {
			made := brought(width, factors)
			values := valuesOf(t, made, list(mat(1, 1, width, 0)), nil)
			got, f := reverse.Run(made, values, len(values)-1, ones(values[len(values)-1]))
			if turn == 0 {
				want = got[0].Bits[0]
			}
			if f != (api.Fault{}) || got[0].Bits[0] != want || float(want, width) != 1+ulp[width] {
				t.Fatalf("%v: %x %v, want %x", factors, got[0], f, want)
			}
			r.Shuffle(len(factors), func(i, k int) { factors[i], factors[k] = factors[k], factors[i] })
		}
	}
}
