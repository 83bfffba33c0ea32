package recall

import (
	"slices"

	"blueline/api"
	"blueline/every"
	"blueline/note"
)

// works returns all letters by which a holder may work on a drawing, on a day, in increasing order.
func (w desk) works(day, holder, drawing int) []int {
	best := 0
	for _, x := range w.held(day, holder, api.KnownNo) {
		if x.Issue.Drawing == drawing {
			best = max(best, x.Issue.Letter)
		}
	}
	letters := []int{best}
	for _, x := range w.held(day, holder, api.KnownOpen) {
		if x.Issue.Drawing == drawing && x.Issue.Letter > best {
			letters = append(letters, x.Issue.Letter)
		}
	}
	slices.Sort(letters)
	return slices.Compact(letters)
}

// needs returns all letters of a drawing that a holder needs, in increasing order.
func (w desk) needs(h api.Holder, drawing int) []int {
	if !slices.Contains(h.Drawings, drawing) {
		return nil
	}
	return lettersFor(h, w.stretches(drawing))
}

// stretches returns the stretches of a drawing in all truths.
func (w desk) stretches(drawing int) []api.Stretch {
	var all []api.Stretch
	for signed := range every.Truth(w.Notes) {
		l, _ := note.Stretches(w.Notes, signed, drawing) // There is no error, as all of these were checked.
		all = append(all, l...)
	}
	return all
}

// lettersFor returns the letters of the stretches in which there are machines of a holder, in increasing order.
func lettersFor(h api.Holder, stretches []api.Stretch) []int {
	var letters []int
	for _, s := range stretches {
		if s.From <= h.To && h.From <= s.To {
			letters = append(letters, s.Letter)
		}
	}
	slices.Sort(letters)
	return slices.Compact(letters)
}

// misses returns all issues that a holder needs and, on a day, has no print of for sure, in order.
func (w desk) misses(day int, h api.Holder) []api.Ref {
	sure := w.held(day, h.Id, api.KnownNo)
	var l []api.Ref
	for _, d := range h.Drawings {
		for _, letter := range w.needs(h, d) {
			issue := api.Ref{Drawing: d, Letter: letter}
			if !slices.ContainsFunc(sure, func(x api.Print) bool { return x.Issue == issue }) {
				l = append(l, issue)
			}
		}
	}
	return l
}

// differ returns whether a letter of one list is another one than a letter of a second list, whichever these are.
func differ(one, other []int) uint8 {
	mayBeSame, mayDiffer := false, false
	for _, x := range one {
		for _, y := range other {
			mayBeSame, mayDiffer = mayBeSame || x == y, mayDiffer || x != y
		}
	}
	switch {
	case !mayDiffer:
		return api.KnownNo
	case !mayBeSame:
		return api.KnownYes
	}
	return api.KnownOpen
}
