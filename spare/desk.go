package spare

import (
	"slices"

	"blueline/api"
	"blueline/built"
	"blueline/swap"
)

// desk is an order at work, for a drawing if it was looked at.
type desk struct {
	api.Order
	swaps   api.Swaps
	issues  []api.Ref // of the register, in order
	drawing int
	letters []int   // of the drawing, in increasing order
	truths  []truth // that are left
}

// truth is a truth of the notes, and the machines with all open notes settled as in it.
type truth struct {
	signed []int
	built  api.Built
}

// lay returns an order as it is worked on, and Check's error of it.
func lay(c api.Order) (desk, api.Errno) {
	if e := built.Check(c.Built); e != api.OK {
		return desk{}, e
	}
	w := desk{Order: c, swaps: api.Swaps{Notes: c.Built.Notes, Rules: c.Rules}}
	if e := swap.Check(w.swaps); e != api.OK {
		return desk{}, e
	}
	if !within(api.Span{Lo: 0, Hi: api.MaxDay}, c.Day) {
		return desk{}, api.ErrArg
	}
	for _, x := range c.Built.Notes.Register.Issues {
		w.issues = append(w.issues, api.Ref{Drawing: x.Drawing, Letter: x.Letter})
	}
	return w, api.OK
}

// look returns an order for machines and a drawing: Check's error; then ErrArg unless these are machines that were built; then ErrNone unless the drawing is one of a part or a standard part, and the register has all issues that are asked for; then ErrBad if no truth is left.
func look(c api.Order, machines []int, drawing int, asked ...api.Ref) (desk, api.Errno) {
	w, e := lay(c)
	if e != api.OK {
		return desk{}, e
	}
	for _, machine := range machines {
		if !slices.Contains(w.Built.Machines, machine) {
			return desk{}, api.ErrArg
		}
	}
	w.drawing, w.letters = drawing, w.lettersOf(drawing)
	if len(w.letters) == 0 || !w.has(asked) {
		return desk{}, api.ErrNone
	}
	truths, e := built.Signed(w.Built)
	if e != api.OK {
		return desk{}, e
	}
	if len(truths) == 0 {
		return desk{}, api.ErrBad
	}
	for _, signed := range truths {
		w.truths = append(w.truths, truth{signed: signed, built: w.settled(signed)})
	}
	return w, api.OK
}

// lettersOf returns the letters of a drawing of a part or a standard part: none if it is not one of these.
func (w desk) lettersOf(drawing int) []int {
	var letters []int
	for _, x := range w.Built.Notes.Register.Issues {
		if x.Drawing == drawing && x.Kind != api.KindAssembly {
			letters = append(letters, x.Letter)
		}
	}
	return letters
}

// has reports whether the register has all of some issues.
func (w desk) has(some []api.Ref) bool {
	return !slices.ContainsFunc(some, func(x api.Ref) bool { return !slices.Contains(w.issues, x) })
}

// settled returns the machines with all open notes settled as in a truth.
func (w desk) settled(signed []int) api.Built {
	b := w.Built
	b.Notes.Notes = slices.Clone(b.Notes.Notes)
	for i, x := range b.Notes.Notes {
		if x.Signed != api.KnownOpen {
			continue
		}
		b.Notes.Notes[i].Signed = api.KnownNo
		if slices.Contains(signed, x.Number) {
			b.Notes.Notes[i].Signed = api.KnownYes
		}
	}
	return b
}

// within reports whether all numbers are in a span.
func within(s api.Span, numbers ...int) bool {
	for _, n := range numbers {
		if n < s.Lo || n > s.Hi {
			return false
		}
	}
	return true
}
