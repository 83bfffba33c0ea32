package built

import (
	"iter"
	"maps"
	"slices"

	"blueline/api"
	"blueline/every"
)

// kind is a kind of reports: whether one holds if so many of some pieces, of all of them, have its letter.
type kind struct {
	holds func(count, all int) bool
}

// kinds returns all kinds of reports, from ReportHas on.
func kinds() [3]kind {
	return [3]kind{
		api.ReportHas - 1:  {func(count, _ int) bool { return count > 0 }},
		api.ReportAll - 1:  {func(count, all int) bool { return all > 0 && count == all }},
		api.ReportNone - 1: {func(count, _ int) bool { return count == 0 }},
	}
}

// numbers yields all numbers of old pieces that there may have been on a heap.
func (w desk) numbers(heap int) iter.Seq[int] {
	return func(yield func(int) bool) {
		count := w.counts[heap]
		for more := range count.Hi - count.Lo + 1 {
			if !yield(count.Lo + more) {
				return
			}
		}
	}
}

// lotOf returns the lot of which a report tells.
func (t truth) lotOf(r api.Report) lot { return t.lots[r.Machine][r.Drawing] }

// holds reports whether a report holds if there were so many old pieces on the heap of its lot.
func (t truth) holds(r api.Report, number int) bool {
	l := t.lotOf(r)
	return kinds()[r.Kind-1].holds(l.with(told(r), number), l.count)
}

// faults returns the Numbers of the reports that do not hold if there were so many old pieces on a heap. Reports of lots of other heaps are left out, as this number does not matter for them.
func (w desk) faults(t truth, heap, number int) []int {
	var l []int
	for _, r := range w.Reports {
		if t.lotOf(r).heap == heap && !t.holds(r, number) {
			l = append(l, r.Number)
		}
	}
	return l
}

// left yields all truths of the notes that are left, with the numbers of old pieces with which all reports hold.
func (w desk) left() iter.Seq[truth] {
	return func(yield func(truth) bool) {
	truth:
		for t := range w.truths() {
			for heap := range w.counts {
				var numbers []int
				for number := range w.numbers(heap) {
					if len(w.faults(t, heap, number)) == 0 {
						numbers = append(numbers, number)
					}
				}
				if len(numbers) == 0 {
					continue truth
				}
				t.numbers = append(t.numbers, numbers)
			}
			if !yield(t) {
				return
			}
		}
	}
}

// clash returns the Numbers of all reports that hold in no truth, whatever the others tell, in increasing order.
func (w desk) clash() []int {
	clashing := map[int]bool{}
	for _, r := range w.Reports {
		clashing[r.Number] = true
	}
	for t := range w.truths() {
		for _, r := range w.Reports {
			for number := range w.numbers(t.lotOf(r).heap) {
				if t.holds(r, number) {
					delete(clashing, r.Number)
				}
			}
		}
	}
	return slices.Sorted(maps.Keys(clashing))
}

// withdraw returns the Numbers of the fewest reports that do not hold in some truth, of several ones the first ones: without these it is left.
func (w desk) withdraw() []int {
	var lists [][]int
	for t := range w.truths() {
		lists = append(lists, w.fewest(t))
	}
	return firstOfShortest(lists)
}

// fewest returns the Numbers of the fewest reports that do not hold in a truth of the notes, of several ones the first ones. They are the fewest of each heap, as no report is of two.
func (w desk) fewest(t truth) []int {
	var all []int
	for heap := range w.counts {
		var lists [][]int
		for number := range w.numbers(heap) {
			lists = append(lists, w.faults(t, heap, number))
		}
		all = append(all, firstOfShortest(lists)...)
	}
	slices.Sort(all)
	return all
}

// firstOfShortest returns the shortest list, of several ones the first one (the first Number that differs is less).
func firstOfShortest(lists [][]int) []int {
	l, _ := every.Best(slices.Values(lists), func(l []int) int { return -len(l) })
	return l
}
