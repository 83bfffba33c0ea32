package note

import (
	"cmp"
	"slices"

	"blueline/api"
)

// demand is something by which a note is checked, with those before it in the list.
type demand struct {
	met func(w desk, before []api.Note, x api.Note) bool
}

func demands() [6]demand {
	return [6]demand{{isInOrder}, {isKnown}, {isForMachines}, {isOfIssue}, {isUseful}, {isReplacing}}
}

// right reports whether all notes are valid.
func (w desk) right() bool {
	list := w.Notes.Notes
	sound, open := 0, 0
note:
	for i, x := range list {
		for _, d := range demands() {
			if !d.met(w, list[:i], x) {
				continue note
			}
		}
		sound++
		if x.Signed == api.KnownOpen {
			open++
		}
	}
	return sound == len(list) && open <= api.MaxOpen
}

// isInOrder reports whether a note has a Number of its own, and a place behind those before it.
func isInOrder(_ desk, before []api.Note, x api.Note) bool {
	if !within(api.Span{Lo: 1, Hi: api.MaxId}, x.Number) || !within(api.Span{Lo: 0, Hi: api.MaxDay}, x.Day) {
		return false
	}
	return !slices.ContainsFunc(before, func(y api.Note) bool {
		return y.Number == x.Number || cmp.Or(cmp.Compare(y.Day, x.Day), cmp.Compare(y.Number, x.Number)) > 0
	})
}

func isKnown(_ desk, _ []api.Note, x api.Note) bool {
	return within(api.Span{Lo: api.KnownNo, Hi: api.KnownYes}, int(x.Signed))
}

func isForMachines(_ desk, _ []api.Note, x api.Note) bool {
	return areMachines(x.From, x.To) && x.From <= x.To
}

func isOfIssue(w desk, _ []api.Note, x api.Note) bool {
	name := nameOf(x)
	return name == api.Ref{} || slices.ContainsFunc(w.Register.Issues, func(y api.Issue) bool {
		return name == api.Ref{Drawing: y.Drawing, Letter: y.Letter}
	})
}

// isUseful reports whether a note gives a letter, or cancels another one, and this one is before it.
func isUseful(_ desk, before []api.Note, x api.Note) bool {
	if x.Cancels == 0 {
		return x.Drawing != 0
	}
	return slices.ContainsFunc(before, func(y api.Note) bool { return y.Number == x.Cancels })
}

// isReplacing reports whether a note speaks of old and new pieces just if there are such.
func isReplacing(_ desk, _ []api.Note, x api.Note) bool {
	if x.Letter < 2 {
		return x.Ways == api.WayNone && !x.UseUp
	}
	return within(api.Span{Lo: api.WayNone, Hi: api.WayBoth}, int(x.Ways))
}

// areMachines reports whether all numbers are machines.
func areMachines(numbers ...int) bool {
	return within(api.Span{Lo: 1, Hi: api.MaxMachine}, numbers...)
}

// within reports whether all numbers are in a span.
func within(s api.Span, numbers ...int) bool {
	for _, n := range numbers {
		if n < s.Lo || n > s.Hi {
			return false
		}
	}
	return true
}

func nameOf(x api.Note) api.Ref {
	return api.Ref{Drawing: x.Drawing, Letter: x.Letter}
}
