// Package every yields all that there is of something, for layers that look at each one.
package every

import (
	"iter"
	"slices"

	"blueline/api"
)

// Part yields all lists of some things of a short list, in its order.
func Part[T any](l []T) iter.Seq[[]T] {
	return func(yield func([]T) bool) {
		for bits := range 1 << len(l) {
			var part []T
			for i, x := range l {
				if bits>>i&1 == 1 {
					part = append(part, x)
				}
			}
			if !yield(part) {
				return
			}
		}
	}
}

// Truth yields all truths of notes that are valid, each as a list of Numbers.
func Truth(n api.Notes) iter.Seq[[]int] {
	var open []int
	for _, x := range n.Notes {
		if x.Signed == api.KnownOpen {
			open = append(open, x.Number)
		}
	}
	slices.Sort(open)
	return Part(open)
}
