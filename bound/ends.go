package bound

import (
	"pupil/acc"
	"pupil/api"
	"pupil/bits"
	"pupil/exact"
	"pupil/sure"
)

// end is an end of the span of a sum ahead of its rounding: the exact sum of the parts that are finite, and how many are infinite. These all lie on the end's own side, so that none takes another one away.
type end struct {
	sum      api.Num
	infinite int
}

func (a end) plus(b end) end { return end{sure.Add(a.sum, b.sum), a.infinite + b.infinite} }

func (a end) without(b end) end { return end{sure.Sub(a.sum, b.sum), a.infinite - b.infinite} }

func (a end) times(c api.Num) end { return end{sure.Mul(a.sum, c), a.infinite} }

// rounded tells the end in a width, by a way; beyond is what stands for an infinite one. A divisor of 0 is none.
func (a end) rounded(by api.Num, w, way, beyond int) int {
	if a.infinite > 0 {
		return beyond
	}
	if sure.Sign(by) == 0 {
		b, _, _ := exact.Round(a.sum, w, way)
		return b
	}
	b, _, _ := exact.Quot(a.sum, by, w, way)
	return b
}

// ends is both ends of it.
type ends struct{ lo, hi end }

// endsOf tells those of a span.
func endsOf(s api.Span, w int) ends { return ends{endOf(s.Lo, w), endOf(s.Hi, w)} }

func endOf(b, w int) end {
	if bits.Class(b, w) == api.IsInfinite {
		return end{infinite: 1}
	}
	return end{sum: sure.Of(b, w)}
}

func (e ends) plus(f ends) ends { return ends{e.lo.plus(f.lo), e.hi.plus(f.hi)} }

// without takes out again a part that was added.
func (e ends) without(f ends) ends { return ends{e.lo.without(f.lo), e.hi.without(f.hi)} }

// turned exchanges the ends.
func (e ends) turned() ends { return ends{e.hi, e.lo} }

// times tells the ends of a term. A c that is 0 brings nothing, however far the ends reach.
func (e ends) times(c api.Num) ends {
	switch sure.Sign(c) {
	case 0:
		return ends{}
	case -1:
		e = e.turned()
	}
	return ends{e.lo.times(c), e.hi.times(c)}
}

// outward tells the span, the sum divided by something (by nothing, if that is 0), each end rounded once.
func (e ends) outward(by api.Num, w int) api.Span {
	if sure.Sign(by) < 0 {
		e = e.turned()
	}
	infinity := bits.Convert(api.Inf, 64, w)
	return api.Span{
		Lo: e.lo.rounded(by, w, exact.Down, bits.Neg(infinity, w)),
		Hi: e.hi.rounded(by, w, exact.Up, infinity),
	}
}

// product is a sum of products of floats with what one of both ways told, and with the spans of that.
type product struct {
	sum  api.Acc
	ends ends
}

// add adds those of a matrix.
func (p *product) add(factors, told api.Matrix, spans []api.Span) {
	sum, _ := acc.Products(factors.Bits, told.Bits, told.Width) // Both have one shape and one width.
	p.sum, _ = acc.Merge(p.sum, sum)
	for i, s := range spans {
		p.ends = p.ends.plus(endsOf(s, told.Width).times(sure.Of(factors.Bits[i], told.Width)))
	}
}

// told rounds both.
func (p *product) told(w int) (int, api.Span) {
	b, _ := acc.Round(p.sum, w)
	return b, p.ends.outward(api.Num{}, w)
}
