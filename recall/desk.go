package recall

import (
	"iter"
	"slices"

	"blueline/api"
	"blueline/note"
	"blueline/sheet"
)

// desk is prints at work.
type desk struct {
	api.Prints
	issues []api.Ref // of the register, in order
	ids    []int     // of the holders
}

// question is of what prints are asked.
type question struct{ days, machines, holders, drawings []int }

// lay returns prints as they are worked on, and Check's error of them.
func lay(p api.Prints) (desk, api.Errno) {
	if e := note.Check(p.Notes); e != api.OK {
		return desk{}, e
	}
	w := desk{Prints: p}
	for _, x := range p.Notes.Register.Issues {
		w.issues = append(w.issues, api.Ref{Drawing: x.Drawing, Letter: x.Letter})
	}
	for _, h := range p.Holders {
		w.ids = append(w.ids, h.Id)
	}
	if !w.right() {
		return desk{}, api.ErrPrints
	}
	return w, api.OK
}

// look returns prints as they are worked on: Check's error; then ErrArg unless all days and machines are some; then ErrNone unless there are all holders and drawings.
func look(p api.Prints, q question) (desk, api.Errno) {
	w, e := lay(p)
	if e != api.OK {
		return desk{}, e
	}
	if !areDays(q.days...) || !areMachines(q.machines...) {
		return desk{}, api.ErrArg
	}
	if !w.hasHolders(q.holders) || !w.hasDrawings(q.drawings) {
		return desk{}, api.ErrNone
	}
	return w, api.OK
}

// hasHolders reports whether there are all of some holders.
func (w desk) hasHolders(ids []int) bool {
	return !slices.ContainsFunc(ids, func(id int) bool { return !slices.Contains(w.ids, id) })
}

// hasDrawings reports whether the register has all of some drawings: each one that it has has an issue A.
func (w desk) hasDrawings(drawings []int) bool {
	return !slices.ContainsFunc(drawings, func(d int) bool { return !slices.Contains(w.issues, api.Ref{Drawing: d, Letter: 1}) })
}

// holder returns the holder with an Id, which there is.
func (w desk) holder(id int) api.Holder {
	return w.Holders[slices.Index(w.ids, id)]
}

// out yields all prints that are out on a day.
func (w desk) out(day int) iter.Seq[api.Print] {
	return func(yield func(api.Print) bool) {
		for _, x := range w.Prints.Prints {
			isBack := x.Back != api.NotBack && x.Back <= day
			if x.Day <= day && !isBack && x.Lost != api.KnownYes && !yield(x) {
				return
			}
		}
	}
}

// held returns the prints that are out on a day, and that a holder has if they are not lost, of which just so much is known.
func (w desk) held(day, holder int, lost uint8) []api.Print {
	var l []api.Print
	for x := range w.out(day) {
		if x.Holder == holder && x.Lost == lost {
			l = append(l, x)
		}
	}
	return l
}

func numbersOf(prints []api.Print) []int {
	var l []int
	for _, x := range prints {
		l = append(l, x.Number)
	}
	return l
}

// copied returns prints in memory of their own.
func copied(p api.Prints) (api.Prints, api.Errno) {
	r, e := sheet.Merge(p.Notes.Register, p.Notes.Register) // The same register (P2.8), in memory of its own.
	if e != api.OK {
		return api.Prints{}, e
	}
	p.Notes = api.Notes{Register: r, Notes: slices.Clone(p.Notes.Notes)}
	p.Holders, p.Prints = slices.Clone(p.Holders), slices.Clone(p.Prints)
	for i, h := range p.Holders {
		p.Holders[i].Drawings = slices.Clone(h.Drawings)
	}
	return p, api.OK
}
