package size

import "blueline/api"

// Fit returns the clearance of a hole and a shaft, and its kind (P1.5).
func Fit(hole, shaft api.Dim) (clearance api.Span, kind uint8, e api.Errno) {
	if e := checkAll(hole, shaft); e != api.OK {
		return api.Span{}, 0, e
	}
	clearance = api.Span{Lo: hole.Lower - shaft.Upper, Hi: hole.Upper - shaft.Lower}
	switch {
	case clearance.Lo >= 0:
		kind = api.FitLoose
	case clearance.Hi <= 0:
		kind = api.FitTight
	default:
		kind = api.FitEither
	}
	return clearance, kind, api.OK
}

// Room returns the widest shaft whose clearance in a hole is always as wanted (P1.6).
func Room(hole api.Dim, want api.Span) (api.Dim, api.Errno) {
	if e := Check(hole); e != api.OK {
		return api.Dim{}, e
	}
	if !mayBeWanted(want) {
		return api.Dim{}, api.ErrArg
	}
	shaft := api.Dim{
		Nominal: hole.Nominal,
		Lower:   max(0, hole.Upper-want.Hi),
		Upper:   min(api.MaxSize, hole.Lower-want.Lo),
	}
	if shaft.Lower > shaft.Upper {
		return api.Dim{}, api.ErrNone
	}
	return shaft, api.OK
}

// Share returns a hole and a shaft of a nominal size for a clearance, exact in a unit (P1.7).
func Share(nominal int, want api.Span, unit uint8) (hole, shaft api.Dim, e api.Errno) {
	if !within(api.Span{Lo: 0, Hi: api.MaxSize}, nominal) || !mayBeWanted(want) {
		return api.Dim{}, api.Dim{}, api.ErrArg
	}
	s, e := scaleOf(unit)
	if e != api.OK {
		return api.Dim{}, api.Dim{}, e
	}
	if s.down(nominal) != nominal {
		return api.Dim{}, api.Dim{}, api.ErrStep
	}
	hole = api.Dim{Nominal: nominal, Lower: nominal, Upper: nominal + s.down((want.Hi-want.Lo)/2)}
	if Check(hole) != api.OK {
		return api.Dim{}, api.Dim{}, api.ErrNone
	}
	shaft, e = Room(hole, want)
	if e == api.OK {
		shaft, e = Convert(shaft, unit)
	}
	if e != api.OK {
		return api.Dim{}, api.Dim{}, e
	}
	return hole, shaft, api.OK
}

func mayBeWanted(want api.Span) bool {
	return within(api.Span{Lo: -api.MaxSize, Hi: api.MaxSize}, want.Lo, want.Hi) && want.Lo <= want.Hi
}
