package note

import (
	"cmp"
	"iter"
	"slices"

	"blueline/api"
)

// Clash returns all pairs of notes that contradict each other (P3.5).
func Clash(n api.Notes, signed []int) ([][2]int, api.Errno) {
	w, t, e := inTruth(n, signed)
	if e != api.OK {
		return nil, e
	}
	against := make([]set, len(n.Notes))
	for i, others := range w.clashes(t) {
		against[i] |= others
	}
	var pairs [][2]int
	for i, x := range n.Notes {
		for _, number := range w.numbers(against[i]) {
			pairs = append(pairs, [2]int{x.Number, number})
		}
	}
	return pairs, api.OK
}

// Withdraw returns the fewest notes without which none contradict each other (P3.6).
func Withdraw(n api.Notes, signed []int) ([]int, api.Errno) {
	w, t, e := inTruth(n, signed)
	if e != api.OK {
		return nil, e
	}
	return firstOfShortest(w.cures(t)), api.OK
}

// clashes yields notes with those behind them that they contradict, for one machine after the other.
func (w desk) clashes(t set) iter.Seq2[int, set] {
	return func(yield func(int, set) bool) {
		for k := range len(w.changes) {
			force := w.force(t, w.changes[k])
			for i, rivals := range w.rivals {
				if force.has(i) && force&rivals != 0 && !yield(i, force&rivals) {
					return
				}
			}
		}
	}
}

// cures yields all lists of notes that are signed, by increasing Numbers, without which none contradict each other.
func (w desk) cures(t set) iter.Seq[[]int] {
	return func(yield func([]int) bool) {
		for gone := range parts(t) {
			if !w.isCalm(t &^ gone) {
				continue
			}
			l := w.numbers(gone)
			slices.Sort(l)
			if !yield(l) {
				return
			}
		}
	}
}

// isCalm reports whether no notes contradict each other.
func (w desk) isCalm(t set) bool {
	for range w.clashes(t) {
		return false
	}
	return true
}

// rivalsOf returns, for each note, those behind it that have its drawing, and a lesser letter.
func rivalsOf(list []api.Note) []set {
	l := make([]set, len(list))
	for i, x := range list {
		for k := i + 1; k < len(list); k++ {
			if list[k].Drawing == x.Drawing && list[k].Letter < x.Letter {
				l[i] |= 1 << k
			}
		}
	}
	return l
}

// firstOfShortest returns the first one of the shortest lists: the first thing that differs is less.
func firstOfShortest[T cmp.Ordered](lists iter.Seq[[]T]) []T {
	var best []T
	found := false
	for l := range lists {
		if !found || cmp.Or(cmp.Compare(len(l), len(best)), slices.Compare(l, best)) < 0 {
			best, found = l, true
		}
	}
	return best
}
