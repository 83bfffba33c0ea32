// Package size is layer 1: sizes with tolerances in millimetres and in inches, exactly. See shared/doc/01-size.md.
package size

import "blueline/api"

// Check returns ErrDim unless a size is valid (P1.1).
func Check(d api.Dim) api.Errno {
	if !within(api.Span{Lo: 0, Hi: api.MaxSize}, d.Nominal, d.Lower, d.Upper) || d.Lower > d.Upper {
		return api.ErrDim
	}
	return api.OK
}

// Exact returns the units in which a size is exact, added up (P1.1).
func Exact(d api.Dim) (uint8, api.Errno) {
	if e := Check(d); e != api.OK {
		return 0, e
	}
	sum := uint8(0)
	for _, s := range scales() {
		if (draft{d, s}).exact() {
			sum += s.unit
		}
	}
	return sum, api.OK
}

// Inside reports whether a is inside b (P1.4).
func Inside(a, b api.Dim) (bool, api.Errno) {
	if e := checkAll(a, b); e != api.OK {
		return false, e
	}
	return within(api.Span{Lo: b.Lower, Hi: b.Upper}, a.Lower, a.Upper), api.OK
}

// Meet returns all sizes that are sizes of each one of a list (P1.8).
func Meet(l []api.Dim) (api.Span, api.Errno) {
	if len(l) > api.MaxMeet {
		return api.Span{}, api.ErrMany
	}
	if e := checkAll(l...); e != api.OK {
		return api.Span{}, e
	}
	if len(l) == 0 {
		return api.Span{}, api.ErrNone
	}
	all := api.Span{Lo: 0, Hi: api.MaxSize}
	for _, d := range l {
		all.Lo, all.Hi = max(all.Lo, d.Lower), min(all.Hi, d.Upper)
	}
	if all.Lo > all.Hi {
		return api.Span{}, api.ErrNone
	}
	return all, api.OK
}

func checkAll(l ...api.Dim) api.Errno {
	if _, found := first(l, func(d api.Dim) bool { return Check(d) != api.OK }); found {
		return api.ErrDim
	}
	return api.OK
}

// within reports whether all numbers are in a span.
func within(s api.Span, numbers ...int) bool {
	for _, n := range numbers {
		if n < s.Lo || n > s.Hi {
			return false
		}
	}
	return true
}

// first returns the first thing of a list of which something is so, and whether there is one.
func first[T any](l []T, is func(T) bool) (T, bool) {
	for _, x := range l {
		if is(x) {
			return x, true
		}
	}
	var none T
	return none, false
}
