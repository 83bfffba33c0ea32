package swap

import (
	"slices"

	"blueline/api"
	"blueline/note"
)

// desk is swaps at work, in a truth, for a machine and on a day if they were looked at there.
type desk struct {
	api.Swaps
	issues []api.Ref  // of the register, in order
	force  []int      // the Numbers of the notes that are in force
	rules  []api.Rule // that stand, in the order of the list
}

// lay returns swaps as they are worked on, and Check's error of them.
func lay(s api.Swaps) (desk, api.Errno) {
	if e := note.Check(s.Notes); e != api.OK {
		return desk{}, e
	}
	w := desk{Swaps: s}
	for _, x := range s.Notes.Register.Issues {
		w.issues = append(w.issues, api.Ref{Drawing: x.Drawing, Letter: x.Letter})
	}
	if len(s.Rules) > api.MaxRules || !w.right() {
		return desk{}, api.ErrSwaps
	}
	return w, api.OK
}

// look returns swaps in a truth, for a machine and on a day: Check's error; then ErrTruth if a list tells none; then ErrArg; then ErrNone unless the register has all issues that are asked for.
func look(s api.Swaps, signed []int, machine, day int, asked ...api.Ref) (desk, api.Errno) {
	w, e := lay(s)
	if e != api.OK {
		return desk{}, e
	}
	if _, e := note.Force(w.Notes, signed, machine); e != api.OK { // ErrTruth, or ErrArg
		return desk{}, e
	}
	if !areDays(day) {
		return desk{}, api.ErrArg
	}
	if !w.has(asked...) {
		return desk{}, api.ErrNone
	}
	return w.at(signed, machine, day), api.OK
}

// at returns swaps in a truth, for a machine and on a day, which were checked.
func (w desk) at(signed []int, machine, day int) desk {
	today := w.Notes
	today.Notes = picked(w.Notes.Notes, func(x api.Note) bool { return x.Day <= day })
	known := picked(signed, func(number int) bool {
		return slices.ContainsFunc(today.Notes, func(x api.Note) bool { return x.Number == number })
	})
	w.force, _ = note.Force(today, known, machine) // Notes that begin a valid list are valid.
	w.rules = w.standing(day)
	return w
}

// has reports whether the register has all of some issues.
func (w desk) has(some ...api.Ref) bool {
	for _, x := range some {
		if !slices.Contains(w.issues, x) {
			return false
		}
	}
	return true
}

// picked returns the things of a list of which something is so, in its order.
func picked[T any](l []T, isSo func(T) bool) []T {
	var some []T
	for _, x := range l {
		if isSo(x) {
			some = append(some, x)
		}
	}
	return some
}
