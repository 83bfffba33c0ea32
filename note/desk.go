package note

import (
	"iter"
	"slices"

	"blueline/api"
	"blueline/sheet"
)

// desk is notes at work.
type desk struct {
	api.Notes
	drawings []int // of the register, in increasing order
	changes  []int // machines at which something changes, in increasing order
	rivals   []set // for each note, those behind it that it contradicts where both are in force
}

// set is some of the notes: that with the index i, if 1 << i is in it. A truth is the set of those that are signed.
type set uint

func (s set) has(i int) bool { return s>>i&1 == 1 }

// lay returns notes as they are worked on, and Check's error of them; then ErrArg unless all machines are some.
func lay(n api.Notes, machines ...int) (desk, api.Errno) {
	drawings, e := sheet.Drawings(n.Register)
	if e != api.OK {
		return desk{}, e
	}
	w := desk{Notes: n, drawings: drawings}
	if len(n.Notes) > api.MaxNotes || !w.right() {
		return desk{}, api.ErrNotes
	}
	if !areMachines(machines...) {
		return desk{}, api.ErrArg
	}
	w.changes, w.rivals = changesOf(n.Notes), rivalsOf(n.Notes)
	return w, api.OK
}

// inTruth returns notes as they are worked on, and the truth that a list tells: ErrTruth if it tells none; then ErrArg unless all machines are some.
func inTruth(n api.Notes, signed []int, machines ...int) (desk, set, api.Errno) {
	w, e := lay(n)
	if e != api.OK {
		return desk{}, 0, e
	}
	t, tells := w.told(signed)
	if !tells {
		return desk{}, 0, api.ErrTruth
	}
	if !areMachines(machines...) {
		return desk{}, 0, api.ErrArg
	}
	return w, t, api.OK
}

// changesOf returns the machines at which something changes: the first one, those from which on there is a note, and those behind its last one.
func changesOf(list []api.Note) []int {
	l := []int{1}
	for _, x := range list {
		l = append(l, x.From)
		if x.To < api.MaxMachine {
			l = append(l, x.To+1)
		}
	}
	slices.Sort(l)
	return slices.Compact(l)
}

// told returns the truth that a list of Numbers tells, and whether it tells one.
func (w desk) told(signed []int) (set, bool) {
	unseen := map[int]int{} // indices of open notes, by their Numbers
	for i, x := range w.Notes.Notes {
		if x.Signed == api.KnownOpen {
			unseen[x.Number] = i
		}
	}
	t, last := w.known(api.KnownYes), 0
	for _, number := range signed {
		i, waits := unseen[number]
		if !waits || number < last {
			return 0, false
		}
		delete(unseen, number)
		t |= 1 << i
		last = number
	}
	return t, true
}

// known returns the notes of which just so much is known.
func (w desk) known(signed uint8) set {
	var t set
	for i, x := range w.Notes.Notes {
		if x.Signed == signed {
			t |= 1 << i
		}
	}
	return t
}

// truths yields all truths.
func (w desk) truths() iter.Seq[set] {
	sure := w.known(api.KnownYes)
	return func(yield func(set) bool) {
		for part := range parts(w.known(api.KnownOpen)) {
			if !yield(sure | part) {
				return
			}
		}
	}
}

// parts yields all sets of some notes.
func parts(some set) iter.Seq[set] {
	return func(yield func(set) bool) {
		part := set(0)
		for yield(part) {
			part = (part - some) & some // The carry skips what is not in some: the next set, or, behind all of some, the empty one.
			if part == 0 {
				return
			}
		}
	}
}

// force returns which notes are in force for a machine.
func (w desk) force(t set, machine int) set {
	list := w.Notes.Notes
	var inForce func(i int) bool
	inForce = func(i int) bool {
		if !t.has(i) || !within(api.Span{Lo: list[i].From, Hi: list[i].To}, machine) {
			return false
		}
		for k := i + 1; k < len(list); k++ {
			if list[k].Cancels == list[i].Number && inForce(k) {
				return false
			}
		}
		return true
	}
	var in set
	for i := range len(list) {
		if inForce(i) {
			in |= 1 << i
		}
	}
	return in
}

// by returns the note by which a drawing has its letter, if some are in force; one without a Number, of A, if it is none.
func (w desk) by(force set, drawing int) api.Note {
	by := api.Note{Letter: 1}
	for i, x := range w.Notes.Notes {
		if force.has(i) && x.Drawing == drawing {
			by = x
		}
	}
	return by
}

// letters returns the letters of all drawings for a machine.
func (w desk) letters(t set, machine int) []int {
	force := w.force(t, machine)
	var l []int
	for _, d := range w.drawings {
		l = append(l, w.by(force, d).Letter)
	}
	return l
}

// numbers returns the Numbers of some notes, in the order of the list.
func (w desk) numbers(some set) []int {
	var l []int
	for i, x := range w.Notes.Notes {
		if some.has(i) {
			l = append(l, x.Number)
		}
	}
	return l
}

// has reports whether the register has a drawing.
func (w desk) has(drawing int) bool {
	return slices.Contains(w.drawings, drawing)
}
