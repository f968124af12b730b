package optim

import (
	"math"

	"pupil/api"
)

// floats are the language's own, of both widths.
type floats interface{ float32 | float64 }

// element is what stands at one place: the parameter's, its gradient's, its first slot's, its second one's. A slot that the rule does not keep has 0.
type element[F floats] struct{ w, g, v, s F }

// pace is what a step reckons with at all places: the rate, the rule's numbers and, of RuleAdam, the powers p and q behind the step.
type pace[F floats] struct{ rate, m, b, e, d, c, p, q F }

// powers is the slot in which RuleAdam keeps p and q.
const powers = 2

// paceOf tells the pace of a step that was checked.
func paceOf[F floats](s step, float func(b int) F) pace[F] {
	number := func(b int) F {
		x, _ := size(b, s.w.Width)
		return float(x)
	}
	r := s.rule
	n := pace[F]{rate: number(s.rate), m: number(r.Momentum), b: number(r.Beta), e: number(r.Eps), d: number(r.Decay), c: number(r.Clip)}
	if r.Kind == api.RuleAdam {
		kept := s.slots[powers].Bits
		n.p, n.q = F(float(kept[0])*n.m), F(float(kept[1])*n.b)
	}
	return n
}

// ruleOf tells what an element becomes by a rule.
func ruleOf[F floats](kind int) func(n pace[F], x element[F]) element[F] {
	rules := [...]func(n pace[F], x element[F]) element[F]{
		api.RulePlain:    pace[F].plain,
		api.RuleMomentum: pace[F].momentum,
		api.RuleNesterov: pace[F].nesterov,
		api.RuleAdagrad:  pace[F].adagrad,
		api.RuleRms:      pace[F].rms,
		api.RuleAdam:     pace[F].adam,
	}
	return rules[kind]
}

// The rules are rows of single operations: each conversion around a product bars its fusing with a sum.

// gradient tells an element's gradient with what decays, clipped.
func (n pace[F]) gradient(x element[F]) F {
	g := x.g
	if n.d != 0 {
		g += F(n.d * x.w)
	}
	switch {
	case n.c == 0:
		return g
	case g > n.c:
		return n.c
	case g < -n.c:
		return -n.c
	}
	return g
}

func (n pace[F]) plain(x element[F]) element[F] {
	x.w -= F(n.rate * x.g)
	return x
}

func (n pace[F]) momentum(x element[F]) element[F] {
	x.v = F(n.m*x.v) + x.g
	x.w -= F(n.rate * x.v)
	return x
}

func (n pace[F]) nesterov(x element[F]) element[F] {
	x.v = F(n.m*x.v) + x.g
	ahead := x.g + F(n.m*x.v)
	x.w -= F(n.rate * ahead)
	return x
}

func (n pace[F]) adagrad(x element[F]) element[F] {
	x.v += F(x.g * x.g)
	x.w -= F(n.rate*x.g) / (root(x.v) + n.e)
	return x
}

func (n pace[F]) rms(x element[F]) element[F] {
	x.v = mixed(n.b, x.v, F(x.g*x.g))
	x.w -= F(n.rate*x.g) / (root(x.v) + n.e)
	return x
}

func (n pace[F]) adam(x element[F]) element[F] {
	x.v = mixed(n.m, x.v, x.g)
	x.s = mixed(n.b, x.s, F(x.g*x.g))
	mean, square := x.v/(1-n.p), x.s/(1-n.q)
	x.w -= F(n.rate*mean) / (root(square) + n.e)
	return x
}

// mixed tells a share of what was, and the rest of what comes.
func mixed[F floats](share, was, comes F) F {
	return F(share*was) + F((1-share)*comes)
}

// root tells the square root. A binary32's, rounded to binary64 and then narrowed, is as if rounded once.
func root[F floats](x F) F { return F(math.Sqrt(float64(x))) }

// fault tells whether what an element becomes is not finite: the first of its slots and itself says how.
func (x element[F]) fault() api.Errno {
	for _, f := range [...]F{x.v, x.s, x.w} {
		switch {
		case f != f:
			return api.ErrNaN
		case math.IsInf(float64(f), 0):
			return api.ErrInf
		}
	}
	return api.OK
}
