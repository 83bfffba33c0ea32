package chain

import "blueline/api"

// demand is something by which a loop is checked, of chains whose parts are known.
type demand struct {
	met func(w desk, l api.Loop) bool
}

func demands() [3]demand {
	return [3]demand{{isLinked}, {hasGap}, {isOfPieces}}
}

// right reports whether there are as many loops as there may be, all of them valid.
func (w desk) right() bool {
	if !within(api.Span{Lo: 1, Hi: api.MaxLoops}, len(w.Loops)) {
		return false
	}
	for _, l := range w.Loops {
		for _, d := range demands() {
			if !d.met(w, l) {
				return false
			}
		}
	}
	return true
}

func isLinked(_ desk, l api.Loop) bool {
	return within(api.Span{Lo: 1, Hi: api.MaxLinks}, len(l.Links))
}

func hasGap(_ desk, l api.Loop) bool {
	return within(api.Span{Lo: -api.MaxGap, Hi: api.MaxGap}, l.Gap.Lo, l.Gap.Hi) && l.Gap.Lo <= l.Gap.Hi
}

// isOfPieces reports whether each link is a size of a piece, each one of another piece.
func isOfPieces(w desk, l api.Loop) bool {
	sound := 0
link:
	for i, x := range l.Links {
		left := w.pieces(spotOf(x))
		for _, y := range l.Links[:i+1] {
			if y.Drawing != x.Drawing {
				continue
			}
			if left == 0 {
				continue link
			}
			left--
		}
		sound++
	}
	return sound == len(l.Links)
}

// pieces returns how many pieces have a size: none if there is no such size.
func (w desk) pieces(s api.Spot) int {
	for _, x := range w.parts {
		if x.Drawing == s.Drawing && within(api.Span{Lo: 0, Hi: len(x.Dims) - 1}, s.Dim) {
			return x.count
		}
	}
	return 0
}

// within reports whether all numbers are in a span.
func within(s api.Span, numbers ...int) bool {
	for _, n := range numbers {
		if n < s.Lo || n > s.Hi {
			return false
		}
	}
	return true
}
