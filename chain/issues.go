package chain

import (
	"cmp"
	"slices"

	"blueline/api"
	"blueline/sheet"
	"blueline/size"
)

// redrawn returns the sizes of all parts, drawn again in a unit: ErrUnit unless it is one; ErrNone if a size cannot be drawn again.
func (w desk) redrawn(unit uint8) (map[api.Spot]api.Dim, api.Errno) {
	again := map[api.Spot]api.Dim{}
	for s, d := range w.sizes { // There is one, as there is a link: a wrong unit is always seen.
		x, e := size.Convert(d, unit)
		if e != api.OK {
			return nil, e
		}
		again[s] = x
	}
	return again, api.OK
}

// issued returns chains with an issue more of each part of which a size is another one now, with its sizes as they are now: ErrFull if there is no room.
func (w desk) issued(now map[api.Spot]api.Dim) (api.Chains, api.Errno) {
	c, e := copied(w.Chains)
	if e != api.OK {
		return api.Chains{}, e
	}
	for _, x := range w.parts {
		next := x.with(now)
		if slices.Equal(next.Dims, x.Dims) {
			continue
		}
		last, e := sheet.Last(w.Register, x.Drawing)
		if e != api.OK {
			return api.Chains{}, e
		}
		if last == api.MaxLetter || len(c.Register.Issues) == api.MaxIssues {
			return api.Chains{}, api.ErrFull
		}
		next.Letter = last + 1
		c.Letters[x.place] = next.Letter
		c.Register.Issues = append(c.Register.Issues, next)
	}
	// Stable: so an issue with a new letter comes behind all others of its drawing.
	slices.SortStableFunc(c.Register.Issues, func(x, y api.Issue) int { return cmp.Compare(x.Drawing, y.Drawing) })
	return c, api.OK
}

// with returns the issue of a part with other sizes.
func (x part) with(now map[api.Spot]api.Dim) api.Issue {
	next := x.Issue
	next.Dims = nil
	for i := range x.Dims {
		next.Dims = append(next.Dims, now[api.Spot{Drawing: x.Drawing, Dim: i}])
	}
	return next
}

// copied returns chains in memory of their own.
func copied(c api.Chains) (api.Chains, api.Errno) {
	r, e := sheet.Merge(c.Register, c.Register) // The same register (P2.8), in memory of its own.
	if e != api.OK {
		return api.Chains{}, e
	}
	c.Register, c.Letters, c.Loops = r, slices.Clone(c.Letters), slices.Clone(c.Loops)
	for i, l := range c.Loops {
		c.Loops[i].Links = slices.Clone(l.Links)
	}
	return c, api.OK
}
