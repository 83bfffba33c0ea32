package note

import (
	"slices"

	"blueline/api"
	"blueline/sheet"
)

// Possible returns all letters that a drawing has for a machine in some truth (P3.4).
func Possible(n api.Notes, drawing, machine int) ([]int, api.Errno) {
	w, e := lay(n, machine)
	if e != api.OK {
		return nil, e
	}
	if !w.has(drawing) {
		return nil, api.ErrNone
	}
	var l []int
	for t := range w.truths() {
		l = append(l, w.by(w.force(t, machine), drawing).Letter)
	}
	slices.Sort(l)
	return slices.Compact(l), api.OK
}

// Sure returns the letter that each drawing has for a machine in all truths (P3.4).
func Sure(n api.Notes, machine int) ([]int, api.Errno) {
	w, e := lay(n, machine)
	if e != api.OK {
		return nil, e
	}
	sure := w.letters(w.known(api.KnownYes), machine)
	for t := range w.truths() {
		for i, letter := range w.letters(t, machine) {
			if letter != sure[i] {
				sure[i] = 0 // No letter is 0: it stays so.
			}
		}
	}
	return sure, api.OK
}

// Matters returns the open notes that matter for a machine (P3.4).
func Matters(n api.Notes, machine int) ([]int, api.Errno) {
	w, e := lay(n, machine)
	if e != api.OK {
		return nil, e
	}
	var l []int
	for i, x := range w.Notes.Notes {
		if x.Signed == api.KnownOpen && w.matters(i, machine) {
			l = append(l, x.Number)
		}
	}
	slices.Sort(l)
	return l, api.OK
}

// matters reports whether there are two truths, which differ in an open note alone, with other letters.
func (w desk) matters(i, machine int) bool {
	for t := range w.truths() {
		if !slices.Equal(w.letters(t, machine), w.letters(t^(1<<i), machine)) {
			return true
		}
	}
	return false
}

// Settle returns the notes with an open one that is signed, or not signed (P3.7).
func Settle(n api.Notes, number int, signed bool) (api.Notes, api.Errno) {
	w, e := lay(n)
	if e != api.OK {
		return api.Notes{}, e
	}
	at := slices.IndexFunc(w.Notes.Notes, func(x api.Note) bool { return x.Number == number && x.Signed == api.KnownOpen })
	if at < 0 {
		return api.Notes{}, api.ErrNone
	}
	r, e := sheet.Merge(w.Register, w.Register) // The same register (P2.8), in memory of its own.
	if e != api.OK {
		return api.Notes{}, e
	}
	list := slices.Clone(w.Notes.Notes)
	list[at].Signed = api.KnownNo
	if signed {
		list[at].Signed = api.KnownYes
	}
	return api.Notes{Register: r, Notes: list}, api.OK
}
