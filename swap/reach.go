package swap

import (
	"iter"
	"slices"

	"blueline/api"
)

// may reports whether a piece may be put in a place.
func (w desk) may(piece, place api.Ref) bool {
	return slices.Contains(w.pieces(place), piece)
}

// pieces returns all issues whose pieces may be put in a place, in order.
func (w desk) pieces(place api.Ref) []api.Ref {
	return w.leading(w.steps(), place)
}

// places returns all issues in whose places a piece may be put, in order.
func (w desk) places(piece api.Ref) []api.Ref {
	return w.leading(w.stepsBack(), piece)
}

// pairs returns all pairs of a piece and a place, two issues, such that it may be put there, in order.
func (w desk) pairs() [][2]api.Ref {
	var l [][2]api.Ref
	for _, piece := range w.issues {
		for _, place := range w.places(piece) {
			if place != piece {
				l = append(l, [2]api.Ref{piece, place})
			}
		}
	}
	return l
}

// chain returns the first one of the shortest chains by which a piece may be put in a place, and whether there is one.
func (w desk) chain(piece, place api.Ref) ([]api.Step, bool) {
	far := w.far(w.steps(), place)
	left, leads := far[piece]
	var chain []api.Step
	for at := piece; left > 0; left-- {
		for x := range w.steps() {
			if n, goesOn := far[x.To]; goesOn && x.From == at && n < left {
				chain = append(chain, x)
				at = x.To
				break
			}
		}
	}
	return chain, leads
}

// leading returns all issues from which steps lead to an end, and the end itself, in order.
func (w desk) leading(steps iter.Seq[api.Step], end api.Ref) []api.Ref {
	far := w.far(steps, end)
	return picked(w.issues, func(x api.Ref) bool {
		_, leads := far[x]
		return leads
	})
}

// far returns how many steps lead to an end at least, from each issue from which some do.
func (w desk) far(steps iter.Seq[api.Step], end api.Ref) map[api.Ref]int {
	unreached := map[api.Ref]bool{}
	for _, x := range w.issues {
		unreached[x] = true
	}
	delete(unreached, end)
	far := map[api.Ref]int{end: 0}
	reached := []api.Ref{end}
	for len(reached) > 0 {
		nearest := reached[0]
		reached = reached[1:]
		for x := range steps {
			if x.To == nearest && unreached[x.From] {
				delete(unreached, x.From)
				far[x.From] = far[nearest] + 1
				reached = append(reached, x.From)
			}
		}
	}
	return far
}
