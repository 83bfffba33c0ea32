package size

import (
	"iter"

	"blueline/api"
)

// Convert returns a size drawn again in a unit (P1.3).
func Convert(d api.Dim, unit uint8) (api.Dim, api.Errno) {
	return Redraw(d, []uint8{unit})
}

// Redraw returns a size drawn again in each of some units, one after the other (P1.3).
func Redraw(d api.Dim, units []uint8) (api.Dim, api.Errno) {
	if e := Check(d); e != api.OK {
		return api.Dim{}, e
	}
	if len(units) > api.MaxRedraws {
		return api.Dim{}, api.ErrMany
	}
	l, e := scalesOf(units)
	if e != api.OK {
		return api.Dim{}, e
	}
	last := d
	for again := range redrawing(d, l) {
		if again.Lower > again.Upper {
			return api.Dim{}, api.ErrNone
		}
		last = again
	}
	return last, api.OK
}

// Lost returns how many sizes of a size, at the lower and at the upper end, it does not have any more when it is drawn again (P1.3).
func Lost(d api.Dim, unit uint8) (low, high int, e api.Errno) {
	again, e := Convert(d, unit)
	if e != api.OK {
		return 0, 0, e
	}
	return again.Lower - d.Lower, d.Upper - again.Upper, api.OK
}

// redrawing yields the sizes of a redrawing, each one drawn from the one before it.
func redrawing(d api.Dim, l []scale) iter.Seq[api.Dim] {
	return func(yield func(api.Dim) bool) {
		at := d
		for _, s := range l {
			at = draft{at, s}.again()
			if !yield(at) {
				return
			}
		}
	}
}
