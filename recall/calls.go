package recall

import (
	"maps"
	"slices"

	"blueline/api"
	"blueline/every"
)

// stale returns all stale prints on a day, in order.
func (w desk) stale(day int) []api.Print {
	stretches := map[int][]api.Stretch{} // by the drawings that were looked at, as several holders may have prints of one
	var l []api.Print
	for x := range w.out(day) {
		h, d := w.holder(x.Holder), x.Issue.Drawing
		if !slices.Contains(h.Drawings, d) {
			continue
		}
		if _, known := stretches[d]; !known {
			stretches[d] = w.stretches(d)
		}
		if !slices.Contains(lettersFor(h, stretches[d]), x.Issue.Letter) {
			l = append(l, x)
		}
	}
	return l
}

// fewest returns the holders to whom there are the fewest calls that bring back some prints, and how many calls these are, with those about drawings: of several ones the fewest holders, of these the first ones.
func (w desk) fewest(prints []api.Print) (holders []int, calls int) {
	holders, calls = every.Best(every.Part(w.ids), func(holders []int) int {
		return -len(holders) - len(leftBy(holders, prints))
	})
	return holders, -calls
}

// leftBy returns the drawings, in increasing order, of the prints that calls to some holders do not bring back.
func leftBy(holders []int, prints []api.Print) []int {
	left := map[int]int{} // the drawings of prints that were not brought back yet, by the prints' Numbers
	for _, x := range prints {
		left[x.Number] = x.Issue.Drawing
	}
	for _, x := range prints {
		if slices.Contains(holders, x.Holder) {
			delete(left, x.Number)
		}
	}
	return slices.Compact(slices.Sorted(maps.Values(left)))
}

// proof returns as many of some prints as it takes calls to bring them back, no two of the same holder, nor of the same drawing: the first such list. (There is one: prints are edges between holders and drawings, so that the most of them without a common end are as many as the fewest ends of all.)
func (w desk) proof(prints []api.Print) []api.Print {
	var l []api.Print
	_, calls := w.fewest(prints)
	for len(prints) > 0 {
		x := prints[0]
		prints = prints[1:]
		others := apart(prints, x)
		if _, n := w.fewest(others); n == calls-1 { // Otherwise no such list has x.
			l, prints, calls = append(l, x), others, n
		}
	}
	return l
}

// apart returns the prints that are of another holder and of another drawing than one.
func apart(prints []api.Print, one api.Print) []api.Print {
	var l []api.Print
	for _, x := range prints {
		if x.Holder != one.Holder && x.Issue.Drawing != one.Issue.Drawing {
			l = append(l, x)
		}
	}
	return l
}
