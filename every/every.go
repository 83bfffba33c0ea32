// Package every yields all that there is of something, for layers that look at each one, and finds the first of the best.
package every

import (
	"cmp"
	"iter"
	"slices"

	"blueline/api"
)

// Part yields all lists of some things of a short list, in its order.
func Part[T any](l []T) iter.Seq[[]T] {
	return func(yield func([]T) bool) {
		for bits := range 1 << len(l) {
			var part []T
			for i, x := range l {
				if bits>>i&1 == 1 {
					part = append(part, x)
				}
			}
			if !yield(part) {
				return
			}
		}
	}
}

// Truth yields all truths of notes that are valid, each as a list of Numbers.
func Truth(n api.Notes) iter.Seq[[]int] {
	var open []int
	for _, x := range n.Notes {
		if x.Signed == api.KnownOpen {
			open = append(open, x.Number)
		}
	}
	slices.Sort(open)
	return Part(open)
}

// Best returns the list that is worth most, and how much: of several ones the shortest, of these the first one (the first thing that differs is less).
func Best[T cmp.Ordered](lists iter.Seq[[]T], worth func([]T) int) ([]T, int) {
	var best []T
	most, found := 0, false
	for l := range lists {
		n := worth(l)
		if !found || cmp.Or(cmp.Compare(most, n), cmp.Compare(len(l), len(best)), slices.Compare(l, best)) < 0 {
			best, most, found = l, n, true
		}
	}
	return best, most
}
