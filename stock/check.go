package stock

import (
	"blueline/api"
	"blueline/note"
	"blueline/sheet"
)

// demand is something by which a stock is checked, whose Notes are valid.
type demand struct {
	met func(s api.Stock) bool
}

func demands() [4]demand {
	return [4]demand{{isForDrawing}, {isOfPart}, {isPiled}, {isForMachines}}
}

// lay returns a stock as it is worked on, and Check's error of it.
func lay(s api.Stock) (store, api.Errno) {
	if e := note.Check(s.Notes); e != api.OK {
		return store{}, e
	}
	for _, d := range demands() {
		if !d.met(s) {
			return store{}, api.ErrStock
		}
	}
	return store{Stock: s}, api.OK
}

func isForDrawing(s api.Stock) bool {
	_, e := sheet.Last(s.Notes.Register, s.Of)
	return e == api.OK
}

func isOfPart(s api.Stock) bool {
	x, e := sheet.At(s.Notes.Register, api.Ref{Drawing: s.Drawing, Letter: 1})
	return e == api.OK && x.Kind != api.KindAssembly
}

// isPiled reports whether there is a pile of each letter.
func isPiled(s api.Stock) bool {
	last, e := sheet.Last(s.Notes.Register, s.Drawing)
	return e == api.OK && len(s.Piles) == last && arePiles(s.Piles)
}

// isForMachines reports whether machines are some, in increasing order.
func isForMachines(s api.Stock) bool {
	if len(s.Machines) > api.MaxBuilds {
		return false
	}
	last := 0
	for _, m := range s.Machines {
		if !within(api.Span{Lo: last + 1, Hi: api.MaxMachine}, m) {
			return false
		}
		last = m
	}
	return true
}

// arePiles reports whether all counts are some of pieces on a pile.
func arePiles(counts []int) bool {
	return within(api.Span{Lo: 0, Hi: api.MaxPile}, counts...)
}

// within reports whether all numbers are in a span.
func within(s api.Span, numbers ...int) bool {
	for _, n := range numbers {
		if n < s.Lo || n > s.Hi {
			return false
		}
	}
	return true
}
