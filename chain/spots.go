package chain

import (
	"iter"
	"math/bits"

	"blueline/api"
)

// spots yields all spots, in order.
func (w desk) spots() iter.Seq[api.Spot] {
	return func(yield func(api.Spot) bool) {
		linked := map[api.Spot]bool{}
		for _, l := range w.Loops {
			for _, x := range l.Links {
				linked[spotOf(x)] = true
			}
		}
		for _, x := range w.parts {
			for i := range x.Dims {
				s := api.Spot{Drawing: x.Drawing, Dim: i}
				if x.Kind == api.KindStandard {
					delete(linked, s)
				}
				if linked[s] && !yield(s) {
					return
				}
			}
		}
	}
}

// areSpots reports whether all of a list are spots, in order, no one twice.
func (w desk) areSpots(l []api.Spot) bool {
	for s := range w.spots() {
		if len(l) > 0 && l[0] == s {
			l = l[1:]
		}
	}
	return len(l) == 0
}

// closesWith reports whether all loops are known to close with some spots tightened to a grade.
func (w desk) closesWith(spots []api.Spot, grade int) bool {
	return len(w.tightened(spots, grade).wrong()) == 0
}

// grade returns the greatest grade to which spots may be tightened so that all loops are known to close, and whether there is one.
func (w desk) grade(spots []api.Spot) (int, bool) {
	return greatest(0, api.MaxSize, func(grade int) bool { return w.closesWith(spots, grade) })
}

// greatest returns the greatest number from least to most of which something is so, and whether there is one: what is so of a number has to be so of all smaller ones.
func greatest[N ~int](least, most N, isSo func(N) bool) (N, bool) {
	if !isSo(least) {
		return 0, false
	}
	for least < most {
		middle := most - (most-least)/2
		if isSo(middle) {
			least = middle
		} else {
			most = middle - 1
		}
	}
	return least, true
}

// fewest returns the first one of the shortest lists of some of the spots that have to be exact so that all loops are known to close, and whether there is one.
func (w desk) fewest(spots []api.Spot) ([]api.Spot, bool) {
	var best []api.Spot
	found := false
	for set := range 1 << len(spots) {
		if found && bits.OnesCount(uint(set)) > len(best) {
			continue
		}
		if l := some(spots, set); w.closesWith(l, 0) {
			best, found = l, true // The last one of as many spots is the first list, as some has it.
		}
	}
	return best, found
}

// some returns the spots of a set, whose highest bit is the first spot: so a list that is before another one of as many spots is a greater number.
func some(spots []api.Spot, set int) []api.Spot {
	var l []api.Spot
	for i, s := range spots {
		if set>>(len(spots)-1-i)&1 == 1 {
			l = append(l, s)
		}
	}
	return l
}
