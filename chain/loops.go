package chain

import "blueline/api"

// worst returns for each link of a loop the size with which its sum is the greatest, or the least.
func (w desk) worst(l api.Loop, high bool) []int {
	var sizes []int
	for _, x := range l.Links {
		d := w.sizes[spotOf(x)]
		if high == x.Back {
			sizes = append(sizes, d.Lower)
		} else {
			sizes = append(sizes, d.Upper)
		}
	}
	return sizes
}

// shares returns for each link of a loop by how much its size alone may change the sum.
func (w desk) shares(l api.Loop) []int {
	var shares []int
	for _, x := range l.Links {
		d := w.sizes[spotOf(x)]
		shares = append(shares, d.Upper-d.Lower)
	}
	return shares
}

// reach returns the least and the greatest sum of a loop.
func (w desk) reach(l api.Loop) api.Span {
	return api.Span{Lo: sum(l, w.worst(l, false)), Hi: sum(l, w.worst(l, true))}
}

// sum returns the sum of a loop with a size for each link.
func sum(l api.Loop, sizes []int) int {
	n := 0
	for i, x := range l.Links {
		if x.Back {
			n -= sizes[i]
		} else {
			n += sizes[i]
		}
	}
	return n
}

// closes returns whether a loop is known to close.
func (w desk) closes(l api.Loop) uint8 {
	reach := w.reach(l)
	switch {
	case within(l.Gap, reach.Lo, reach.Hi):
		return api.KnownYes
	case reach.Hi < l.Gap.Lo || reach.Lo > l.Gap.Hi:
		return api.KnownNo
	}
	return api.KnownOpen // Each number of the reach comes about, and some are within the gap.
}

// wrong returns all loops that are not known to close.
func (w desk) wrong() []int {
	var wrong []int
	for i, l := range w.Loops {
		if w.closes(l) != api.KnownYes {
			wrong = append(wrong, i)
		}
	}
	return wrong
}

// proof returns the first loop that is not known to close, of which there is one, and sizes with which it does not.
func (w desk) proof() (loop int, sizes []int) {
	loop = w.wrong()[0]
	l := w.Loops[loop]
	return loop, w.worst(l, w.reach(l).Hi > l.Gap.Hi)
}
