package built

import (
	"iter"
	"slices"

	"blueline/api"
)

// spread returns the least and the greatest of all numbers that a function adds for each one of some truths: ErrBad if it adds none.
func spread(truths iter.Seq[truth], each func(t truth, add func(int))) (api.Span, api.Errno) {
	var s api.Span
	found := false
	add := func(number int) {
		if !found {
			s, found = api.Span{Lo: number, Hi: number}, true
		}
		s = api.Span{Lo: min(s.Lo, number), Hi: max(s.Hi, number)}
	}
	for t := range truths {
		each(t, add)
	}
	if !found {
		return api.Span{}, api.ErrBad
	}
	return s, api.OK
}

// holdings returns all issues of which a machine may have pieces, in order: ErrBad if no truth is left.
func (w desk) holdings(machine int) ([]api.Holding, api.Errno) {
	left := slices.Collect(w.left())
	if len(left) == 0 {
		return nil, api.ErrBad
	}
	var l []api.Holding
	for _, x := range w.parts {
		count, _ := spread(slices.Values(left), func(t truth, add func(int)) { t.pieces(machine, x, add) })
		if count.Hi > 0 {
			l = append(l, api.Holding{Issue: x, Count: count})
		}
	}
	return l, api.OK
}

// settled returns what is known of the open notes, in their order: ErrBad if no truth is left.
func (w desk) settled() ([]uint8, api.Errno) {
	left := slices.Collect(w.left())
	if len(left) == 0 {
		return nil, api.ErrBad
	}
	var l []uint8
	for _, x := range w.Notes.Notes {
		if x.Signed == api.KnownOpen {
			l = append(l, known(left, x.Number))
		}
	}
	return l, api.OK
}

// known returns whether a note is signed in all truths, in none, or in some.
func known(truths []truth, number int) uint8 {
	signed := 0
	for _, t := range truths {
		if slices.Contains(t.signed, number) {
			signed++
		}
	}
	switch signed {
	case len(truths):
		return api.KnownYes
	case 0:
		return api.KnownNo
	}
	return api.KnownOpen
}
