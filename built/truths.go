package built

import (
	"iter"
	"slices"

	"blueline/api"
	"blueline/every"
	"blueline/note"
	"blueline/sheet"
)

// truth is a truth of the notes, with what machines have in it.
type truth struct {
	signed  []int
	lots    map[int]map[int]lot // by machines and drawings, of all parts that a machine has
	numbers [][]int             // of old pieces, by counts, with which all reports hold, if they were asked
}

// lot is all pieces of a part that a machine has: the issue that they are of unless they are old, and how many they are; by the index of its count, the heap from which old ones come; and how many pieces machines before this one need from there.
type lot struct {
	issue         api.Ref
	count         int
	heap, earlier int
}

// with returns how many pieces of a lot are of an issue, if there were so many old ones.
func (l lot) with(x api.Ref, number int) int {
	old := min(max(number-l.earlier, 0), l.count)
	switch x {
	case l.issue:
		return l.count - old
	case api.Ref{Drawing: l.issue.Drawing, Letter: l.issue.Letter - 1}:
		return old
	}
	return 0
}

// truths yields all truths of the notes, whatever is reported.
func (w desk) truths() iter.Seq[truth] {
	return func(yield func(truth) bool) {
		for signed := range every.Truth(w.Notes) {
			if !yield(w.in(signed)) {
				return
			}
		}
	}
}

// in returns what machines have in a truth of the notes.
func (w desk) in(signed []int) truth {
	t := truth{signed: signed, lots: map[int]map[int]lot{}}
	earlier := make([]int, len(w.counts))
	for _, machine := range w.Machines {
		lots := w.lots(signed, machine)
		for i, h := range w.Heaps {
			l := lots[h.Drawing]
			if l.issue == nextTo(h) && w.usesUp(signed, h.Drawing, machine) {
				l.heap, l.earlier = i+1, earlier[i+1]
				earlier[i+1] += l.count
				lots[h.Drawing] = l
			}
		}
		t.lots[machine] = lots
	}
	return t
}

// lots returns what a machine has of each part, by drawings.
func (w desk) lots(signed []int, machine int) map[int]lot {
	letters, _ := note.Letters(w.Notes, signed, machine) // There are no errors, as all of these were checked.
	items, _ := sheet.Explode(w.Notes.Register, letters, w.Of)
	lots := map[int]lot{}
	for i, d := range w.drawings {
		lots[d] = lot{issue: api.Ref{Drawing: d, Letter: letters[i]}}
	}
	for _, it := range items {
		l := lots[it.Drawing]
		l.count = it.Count
		lots[it.Drawing] = l
	}
	for _, d := range w.drawings {
		if lots[d].count == 0 {
			delete(lots, d)
		}
	}
	return lots
}

// usesUp reports whether a drawing has its letter for a machine by a note that says UseUp.
func (w desk) usesUp(signed []int, drawing, machine int) bool {
	number, _ := note.By(w.Notes, signed, drawing, machine)
	return slices.ContainsFunc(w.Notes.Notes, func(x api.Note) bool { return x.Number == number && x.UseUp })
}

// pieces adds how many pieces of an issue a machine has, with each number of old ones that is left.
func (t truth) pieces(machine int, x api.Ref, add func(int)) {
	l := t.lots[machine][x.Drawing]
	for _, number := range t.numbers[l.heap] {
		add(l.with(x, number))
	}
}

// last returns the last machine that takes from a heap with so many old pieces, 0 if none does.
func (t truth) last(heap, number int) int {
	last := 0
	for machine, lots := range t.lots {
		for _, l := range lots {
			if l.heap == heap && number > l.earlier {
				last = max(last, machine)
			}
		}
	}
	return last
}
