package bound_test

import (
	"math/big"
	"testing"

	"pupil/api"
	"pupil/forward"
	"pupil/reverse"
)

// ratios tells the values of a finite matrix.
func ratios(m api.Matrix) []*big.Rat {
	var l []*big.Rat
	for _, b := range m.Bits {
		l = append(l, ratio(b, m.Width))
	}
	return l
}

// exactlyAhead tells the exact tangents, without any rounding.
func exactlyAhead(x told) [][]*big.Rat {
	all, given := make([][]*big.Rat, len(x.values)), seats(x)
	for node, n := range x.tape.Nodes {
		if isLeaf(n) {
			all[node] = ratios(given[node])
			continue
		}
		terms, by := expressionsOf(n, inOf(n, x.values), x.values[node])
		for i, l := range terms {
			sum := new(big.Rat)
			for _, y := range l {
				sum = plus(sum, times(y.factor, all[n.In[y.which]][y.k]))
			}
			all[node] = append(all[node], sum.Quo(sum, by[i]))
		}
	}
	return all
}

// exactlyBack tells the exact adjoints, without any rounding.
func exactlyBack(x told) [][]*big.Rat {
	all := make([][]*big.Rat, len(x.values))
	for node, m := range x.values {
		all[node] = ratios(zeros(m))
	}
	all[x.node] = ratios(x.seed)
	hangs := hangsOn(x.tape, x.node)
	for node := x.node; node >= 0; node-- {
		n := x.tape.Nodes[node]
		if isLeaf(n) || !hangs[node] {
			continue
		}
		terms, by := expressionsOf(n, inOf(n, x.values), x.values[node])
		for i, l := range terms {
			for _, y := range l {
				onto := all[n.In[y.which]]
				onto[y.k] = plus(onto[y.k], times(new(big.Rat).Quo(y.factor, by[i]), all[node][i]))
			}
		}
	}
	return all
}

// wantHeld wants that spans hold what was told and what is exact; it tells how many are no points.
func wantHeld(t *testing.T, what string, spans [][]api.Span, told []api.Matrix, exact [][]*big.Rat) int {
	t.Helper()
	wide := 0
	for node, m := range told {
		for i, s := range spans[node] {
			if s.Lo != s.Hi {
				wide++
			}
			if in := intervalOf(s, m.Width); !in.has(ratio(m.Bits[i], m.Width)) || !in.has(exact[node][i]) {
				t.Fatalf("%s of node %d, place %d: %x does not hold %x and %v", what, node, i, s, m.Bits[i], exact[node][i])
			}
			if s.Lo == s.Hi && exact[node][i].Cmp(ratio(m.Bits[i], m.Width)) != 0 {
				t.Fatalf("%s of node %d, place %d: a point, but not the exact one", what, node, i)
			}
		}
	}
	return wide
}

// inSpan tells whether bits lie in a span; infinite ones, if they are its end on that side.
func inSpan(s api.Span, b, width int) bool {
	if isFinite(b, width) {
		return intervalOf(s, width).has(ratio(b, width))
	}
	if b == infinite(width) {
		return s.Hi == b
	}
	return s.Lo == b
}

// wantMeet wants that Tell's numbers lie in their spans, and that both spans hold the exact derivative.
func wantMeet(t *testing.T, x told, exact *big.Rat) {
	t.Helper()
	w := x.seed.Width
	got, f := x.tell()
	if f != (api.Fault{}) || !inSpan(got.ForwardSpan, got.Forward, w) || !inSpan(got.ReverseSpan, got.Reverse, w) {
		t.Fatalf("Tell: %x %v", got, f)
	}
	if !intervalOf(got.ForwardSpan, w).has(exact) || !intervalOf(got.ReverseSpan, w).has(exact) {
		t.Fatalf("Tell: %x does not hold %v", got, exact)
	}
	if float(got.ForwardSpan.Lo, w) > float(got.ReverseSpan.Hi, w) || float(got.ReverseSpan.Lo, w) > float(got.ForwardSpan.Hi, w) {
		t.Fatalf("Tell: %x don't meet", got)
	}
}

// TestP1304Held: of mixed tapes each tangent, each adjoint and each exact one lies in its span, and both of Tell's spans hold the exact derivative, which is one both ways.
func TestP1304Held(t *testing.T) {
	done, wide := 0, 0
	for _, x := range mixed(250) {
		tangents, f := forward.Run(x.tape, x.values, x.inputs, x.params)
		adjoints, g := reverse.Run(x.tape, x.values, x.node, x.seed)
		if f != (api.Fault{}) || g != (api.Fault{}) {
			continue
		}
		done++
		there, home := exactlyAhead(x), exactlyBack(x)
		spans, _ := x.forward()
		wide += wantHeld(t, "the tangent", spans, tangents, there)
		spans, _ = x.reverse()
		wide += wantHeld(t, "the adjoint", spans, adjoints, home)
		sum, other := new(big.Rat), new(big.Rat)
		for i, c := range ratios(x.seed) {
			sum = plus(sum, times(c, there[x.node][i]))
		}
		for node, m := range seats(x) {
			if isLeaf(x.tape.Nodes[node]) {
				for i, c := range ratios(m) {
					other = plus(other, times(c, home[node][i]))
				}
			}
		}
		if sum.Cmp(other) != 0 {
			t.Fatalf("the exact derivative is %v and %v", sum, other)
		}
		wantMeet(t, x, sum)
	}
	if done < 100 || wide < 1000 {
		t.Errorf("%d are held, %d spans are no points", done, wide)
	}
}
