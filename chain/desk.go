package chain

import (
	"maps"
	"slices"

	"blueline/api"
	"blueline/sheet"
)

// desk is chains at work.
type desk struct {
	api.Chains
	parts []part               // of Of, in order
	sizes map[api.Spot]api.Dim // of the parts' issues, as they are, or tightened
}

// part is a part, or a standard part, of Of: its issue, how many pieces of it there are, and where its letter is in Letters.
type part struct {
	api.Issue
	count, place int
}

// lay returns chains as they are worked on, and Check's error of them.
func lay(c api.Chains) (desk, api.Errno) {
	if e := sheet.Check(c.Register); e != api.OK {
		return desk{}, e
	}
	parts, e := partsOf(c)
	if e != api.OK {
		return desk{}, api.ErrChains
	}
	w := desk{Chains: c, parts: parts, sizes: sizesOf(parts)}
	if !w.right() {
		return desk{}, api.ErrChains
	}
	return w, api.OK
}

// look returns chains as they are worked on, and one of their loops: ErrArg unless there is the loop.
func look(c api.Chains, loop int) (desk, api.Loop, api.Errno) {
	w, e := lay(c)
	if e != api.OK {
		return desk{}, api.Loop{}, e
	}
	if !within(api.Span{Lo: 0, Hi: len(w.Loops) - 1}, loop) {
		return desk{}, api.Loop{}, api.ErrArg
	}
	return w, w.Loops[loop], api.OK
}

// partsOf returns the parts of Of: an error unless Letters are letters of the register, and Of a drawing of it.
func partsOf(c api.Chains) ([]part, api.Errno) {
	items, e := sheet.Explode(c.Register, c.Letters, c.Of)
	if e != api.OK {
		return nil, e
	}
	drawings, e := sheet.Drawings(c.Register)
	if e != api.OK {
		return nil, e
	}
	var parts []part
	for _, it := range items {
		place, _ := slices.BinarySearch(drawings, it.Drawing)
		x, e := sheet.At(c.Register, api.Ref{Drawing: it.Drawing, Letter: c.Letters[place]})
		if e != api.OK {
			return nil, e
		}
		parts = append(parts, part{x, it.Count, place})
	}
	return parts, api.OK
}

// sizesOf returns the sizes of the issues of parts.
func sizesOf(parts []part) map[api.Spot]api.Dim {
	sizes := map[api.Spot]api.Dim{}
	for _, x := range parts {
		for i, d := range x.Dims {
			sizes[api.Spot{Drawing: x.Drawing, Dim: i}] = d
		}
	}
	return sizes
}

// tightened returns chains at work with some spots tightened to a grade.
func (w desk) tightened(spots []api.Spot, grade int) desk {
	w.sizes = maps.Clone(w.sizes)
	for _, s := range spots {
		w.sizes[s] = tight(w.sizes[s], grade)
	}
	return w
}

// tight returns a size tightened to a grade.
func tight(d api.Dim, grade int) api.Dim {
	middle := min(max(d.Nominal, d.Lower), d.Upper)
	d.Lower, d.Upper = max(d.Lower, middle-grade), min(d.Upper, middle+grade)
	return d
}

func spotOf(x api.Link) api.Spot {
	return api.Spot{Drawing: x.Drawing, Dim: x.Dim}
}
