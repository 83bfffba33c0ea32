package size

import "blueline/api"

// scale is a unit in which sizes are drawn and written.
type scale struct {
	unit   uint8
	step   int
	places int // digits behind the point
	mark   string
	// The multiples of the step that are next to a number: not below it, not above it, and the nearest one that a size may have.
	up, down, near func(n int) int
}

func scales() [2]scale {
	return [2]scale{
		newScale(api.UnitMm, api.StepMm, 3, "mm"),
		newScale(api.UnitInch, api.StepInch, 4, "in"),
	}
}

func newScale(unit uint8, step, places int, mark string) scale {
	up := func(n int) int { return (n + step - 1) / step * step }
	down := func(n int) int { return n / step * step }
	near := func(n int) int {
		below := down(n)
		above := below + step
		if n-below > above-n && above <= api.MaxSize {
			return above
		}
		return below
	}
	return scale{unit, step, places, mark, up, down, near}
}

// scaleOf returns the scale of a unit: ErrUnit if it is none.
func scaleOf(unit uint8) (scale, api.Errno) {
	all := scales()
	s, found := first(all[:], func(s scale) bool { return s.unit == unit })
	if !found {
		return scale{}, api.ErrUnit
	}
	return s, api.OK
}

// scalesOf returns the scales of some units: ErrUnit if one is none.
func scalesOf(units []uint8) ([]scale, api.Errno) {
	var l []scale
	for _, unit := range units {
		s, e := scaleOf(unit)
		if e != api.OK {
			return nil, e
		}
		l = append(l, s)
	}
	return l, api.OK
}

// draft is a size at work, and the scale in which it is drawn.
type draft struct {
	api.Dim
	scale
}

// again returns the size drawn again; Lower is above Upper if it has no sizes then.
func (w draft) again() api.Dim {
	return api.Dim{Nominal: w.near(w.Nominal), Lower: w.up(w.Lower), Upper: w.down(w.Upper)}
}

// exact reports whether a valid size is exact: nothing of such a one moves when it is drawn again.
func (w draft) exact() bool { return w.again() == w.Dim }
