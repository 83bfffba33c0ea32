package recall

import (
	"slices"

	"blueline/api"
)

// demand is something by which a print is checked.
type demand struct {
	met func(w desk, x api.Print) bool
}

func demands() [4]demand {
	return [4]demand{{isOfIssue}, {isSent}, {isBackInTime}, {isKnown}}
}

// right reports whether all holders and all prints are valid.
func (w desk) right() bool {
	return w.areHolders() && w.arePrints()
}

func (w desk) areHolders() bool {
	if len(w.Holders) > api.MaxHolders || !areIds(w.ids) {
		return false
	}
	for _, h := range w.Holders {
		if len(h.Drawings) > api.MaxWorks || !areIds(h.Drawings) || !w.hasDrawings(h.Drawings) || !areMachines(h.From, h.To) || h.From > h.To {
			return false
		}
	}
	return true
}

func (w desk) arePrints() bool {
	list := w.Prints.Prints
	if len(list) > api.MaxPrints || !areIds(numbersOf(list)) {
		return false
	}
	sound := 0
print:
	for _, x := range list {
		for _, d := range demands() {
			if !d.met(w, x) {
				continue print
			}
		}
		sound++
	}
	return sound == len(list)
}

func isOfIssue(w desk, x api.Print) bool {
	return slices.Contains(w.issues, x.Issue)
}

func isSent(w desk, x api.Print) bool {
	return areDays(x.Day) && w.hasHolders([]int{x.Holder})
}

func isBackInTime(_ desk, x api.Print) bool {
	return x.Back == api.NotBack || within(api.Span{Lo: x.Day, Hi: api.MaxDay}, x.Back)
}

// isKnown reports whether Lost tells what may be known of a print that came back, or did not.
func isKnown(_ desk, x api.Print) bool {
	if x.Back != api.NotBack {
		return x.Lost == api.KnownNo
	}
	return within(api.Span{Lo: api.KnownNo, Hi: api.KnownYes}, int(x.Lost))
}

// areIds reports whether numbers are from 1 to MaxId, in increasing order, no one twice.
func areIds(numbers []int) bool {
	last := 0
	for _, n := range numbers {
		if !within(api.Span{Lo: last + 1, Hi: api.MaxId}, n) {
			return false
		}
		last = n
	}
	return true
}

// areDays reports whether all numbers are days.
func areDays(numbers ...int) bool {
	return within(api.Span{Lo: 0, Hi: api.MaxDay}, numbers...)
}

// areMachines reports whether all numbers are machines.
func areMachines(numbers ...int) bool {
	return within(api.Span{Lo: 1, Hi: api.MaxMachine}, numbers...)
}

// within reports whether all numbers are in a span.
func within(s api.Span, numbers ...int) bool {
	for _, n := range numbers {
		if n < s.Lo || n > s.Hi {
			return false
		}
	}
	return true
}
