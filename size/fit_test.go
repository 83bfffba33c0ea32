package size_test

import (
	"math"
	"math/rand"
	"testing"

	"blueline/api"
	"blueline/size"
)

// P1.5: the examples, and kinds whose end is 0.
func TestFit(t *testing.T) {
	for _, x := range []struct {
		hole, shaft api.Dim
		want        api.Span
		kind        uint8
	}{
		{exampleD, exampleS, span(700, 4100), api.FitLoose}, {exampleD, exampleP, span(-2800, 600), api.FitEither}, {exampleS, exampleD, span(-4100, -700), api.FitTight}, {exampleD, exampleD, span(-2100, 2100), api.FitEither},
		{dim(0, 5, 9), dim(0, 2, 5), span(0, 7), api.FitLoose}, {dim(0, 5, 9), dim(0, 2, 6), span(-1, 7), api.FitEither}, {dim(0, 2, 5), dim(0, 5, 9), span(-7, 0), api.FitTight}, {dim(0, 2, 6), dim(0, 5, 9), span(-7, 1), api.FitEither}, {same(5), same(5), span(0, 0), api.FitLoose}, {same(5), same(4), span(1, 1), api.FitLoose}, {same(4), same(5), span(-1, -1), api.FitTight}, {dim(0, 4, 6), same(6), span(-2, 0), api.FitTight}, {dim(0, 4, 6), same(4), span(0, 2), api.FitLoose},
		{same(0), same(most), span(-most, -most), api.FitTight}, {same(most), same(0), span(most, most), api.FitLoose}, {dim(0, 0, most), dim(0, 0, most), span(-most, most), api.FitEither}, {dim(most, 5, 6), dim(0, 1, 2), span(3, 5), api.FitLoose},
	} {
		if c, k, e := size.Fit(x.hole, x.shaft); c != x.want || k != x.kind || e != api.OK {
			t.Error(x.hole, x.shaft, c, k, e)
		}
	}
}

// P1.13: any size of a hole less any of a shaft is told, both ends come about, and the kind is what is so of all.
func TestFitIsAll(t *testing.T) {
	everyPair(6, func(hole, shaft api.Dim) {
		least, greatest := math.MaxInt, math.MinInt
		for h := hole.Lower; h <= hole.Upper; h++ {
			for s := shaft.Lower; s <= shaft.Upper; s++ {
				least, greatest = min(least, h-s), max(greatest, h-s)
			}
		}
		kind := uint8(api.FitEither)
		if least >= 0 {
			kind = api.FitLoose
		} else if greatest <= 0 {
			kind = api.FitTight
		}
		if c, k, e := size.Fit(hole, shaft); c != span(least, greatest) || k != kind || e != api.OK {
			t.Error(hole, shaft, c, k, e)
		}
	})
}

// P1.13: drawn again, a hole and a shaft never fit in a way in which they did not before.
func TestFitDrawnAgain(t *testing.T) {
	r := rand.New(rand.NewSource(13))
	for range 20000 {
		hole := someDim(r)
		shaft := someDim(r)
		if r.Intn(2) == 0 {
			shaft = dim(hole.Nominal, max(0, hole.Lower-r.Intn(2000)), min(most, hole.Upper+r.Intn(2000)))
		}
		c, k, _ := size.Fit(hole, shaft)
		h, e := size.Convert(hole, uint8(1+r.Intn(2)))
		s, f := size.Convert(shaft, uint8(1+r.Intn(2)))
		if e != api.OK || f != api.OK {
			continue
		}
		again, kind, g := size.Fit(h, s)
		if g != api.OK || again.Lo < c.Lo || again.Hi > c.Hi {
			t.Fatal(hole, shaft, c, again, g)
		}
		if k != api.FitEither && k != kind && again != span(0, 0) {
			t.Fatal(hole, shaft, k, kind)
		}
	}
}

// wrongWants returns spans that can't be wanted.
func wrongWants() []api.Span {
	return []api.Span{
		span(1, 0), span(0, -1), span(most, -most), span(-most-1, 0), span(-most-1, -most-1), span(0, most+1), span(most+1, most+1), span(-most-1, most+1), span(most+1, 0), span(0, -most-1),
		span(math.MinInt, math.MaxInt), span(math.MinInt, math.MinInt), span(math.MaxInt, math.MaxInt), span(math.MaxInt, math.MinInt), span(0, math.MaxInt), span(math.MinInt, 0), span(0, 1<<32), span(-1<<32, 0),
	}
}

// P1.6: the example, the ends of what shafts may be, and the errors.
func TestRoom(t *testing.T) {
	for _, x := range []struct {
		hole api.Dim
		want api.Span
		room api.Dim
		e    api.Errno
	}{
		{exampleD, span(700, 4100), exampleS, api.OK}, {exampleD, span(-2800, 600), exampleP, api.OK}, {exampleD, span(0, 2100), same(2000000), api.OK}, {exampleD, span(0, 2099), api.Dim{}, api.ErrNone}, {exampleD, span(0, 2101), dim(2000000, 1999999, 2000000), api.OK}, {exampleD, span(0, 0), api.Dim{}, api.ErrNone}, {same(5), span(0, 0), same(5), api.OK}, {same(5), span(-most, most), dim(5, 0, most), api.OK}, {dim(77, 5, 5), span(1, 2), dim(77, 3, 4), api.OK}, {dim(0, 5, 9), span(-3, 4), dim(0, 5, 8), api.OK},
		{exampleD, span(0, most), dim(2000000, 0, 2000000), api.OK}, {exampleD, span(-most, 0), dim(2000000, 2002100, most), api.OK}, {exampleD, span(2000000, 5000000), dim(2000000, 0, 0), api.OK}, {exampleD, span(2000001, 5000000), api.Dim{}, api.ErrNone}, {exampleD, span(most, most), api.Dim{}, api.ErrNone}, {dim(5, 999999990, most), span(-100, 0), dim(5, most, most), api.OK}, {same(most), span(-1, -1), api.Dim{}, api.ErrNone}, {same(most), span(-1, 0), same(most), api.OK}, {same(0), span(1, 1), api.Dim{}, api.ErrNone}, {same(0), span(-most, -most), dim(0, most, most), api.OK}, {same(most), span(most, most), dim(most, 0, 0), api.OK}, {dim(0, 0, most), span(-most, most), dim(0, 0, most), api.OK}, {dim(3, 0, most), span(0, most), dim(3, 0, 0), api.OK}, {dim(0, 0, most), span(-most+1, most-1), dim(0, 1, most-1), api.OK}, {same(0), span(-most, most), dim(0, 0, most), api.OK},
	} {
		if d, e := size.Room(x.hole, x.want); d != x.room || e != x.e {
			t.Error(x.hole, x.want, d, e)
		}
	}
	for _, want := range wrongWants() {
		for _, hole := range []api.Dim{exampleD, same(0), same(most), dim(0, 0, most)} {
			if d, e := size.Room(hole, want); d != (api.Dim{}) || e != api.ErrArg {
				t.Error(hole, want, d, e)
			}
		}
	}
}

// P1.14: a shaft is in the room if and only if its clearance always is as wanted.
func TestRoomIsAll(t *testing.T) {
	const top = 7
	for lower := range top {
		for upper := lower; upper < top; upper++ {
			for lo := -top; lo <= top; lo++ {
				for hi := lo; hi <= top; hi++ {
					roomIsAll(t, dim(3, lower, upper), span(lo, hi), 3*top)
				}
			}
		}
	}
}

// roomIsAll checks the room of a hole against all shafts of one size below top; wider ones are of those.
func roomIsAll(t *testing.T, hole api.Dim, want api.Span, top int) {
	t.Helper()
	room, e := size.Room(hole, want)
	some := false
	for n := range top {
		c, _, _ := size.Fit(hole, same(n))
		fits := c.Lo >= want.Lo && c.Hi <= want.Hi
		some = some || fits
		if fits != (e == api.OK && n >= room.Lower && n <= room.Upper) {
			t.Error(hole, want, room, e, n)
		}
	}
	if some && (e != api.OK || room.Nominal != hole.Nominal) || !some && (e != api.ErrNone || room != api.Dim{}) {
		t.Error(hole, want, room, e)
	}
}

// P1.14: of large sizes the room is as wanted, and wider by 1 at either end it is not.
func TestRoomIsWidest(t *testing.T) {
	r := rand.New(rand.NewSource(14))
	good := 0
	for range 20000 {
		hole := someDim(r)
		lo := r.Intn(3000000) - 1500000
		want := span(lo, lo+r.Intn(2*(hole.Upper-hole.Lower)+10))
		fits := func(shaft api.Dim) bool {
			c, _, e := size.Fit(hole, shaft)
			return e == api.OK && c.Lo >= want.Lo && c.Hi <= want.Hi
		}
		room, e := size.Room(hole, want)
		if e == api.ErrNone {
			if fits(same(max(0, min(most, hole.Lower-want.Lo)))) {
				t.Fatal(hole, want, "has room")
			}
			continue
		}
		good++
		if e != api.OK || room.Nominal != hole.Nominal || !fits(room) || fits(dim(0, room.Lower-1, room.Upper)) || fits(dim(0, room.Lower, room.Upper+1)) {
			t.Fatal(hole, want, room, e)
		}
	}
	if good < 1000 {
		t.Error("few holes had room:", good)
	}
}

// P1.7: the example, halves that are no whole steps, and what is not to be had.
func TestShare(t *testing.T) {
	for _, x := range []struct {
		nominal     int
		want        api.Span
		unit        uint8
		hole, shaft api.Dim
		e           api.Errno
	}{
		{2000000, span(700, 4100), mm, dim(2000000, 2000000, 2001700), dim(2000000, 1997600, 1999300), api.OK}, {2000000, span(700, 4099), mm, dim(2000000, 2000000, 2001600), dim(2000000, 1997600, 1999300), api.OK}, {2000000, span(700, 4299), mm, dim(2000000, 2000000, 2001700), dim(2000000, 1997500, 1999300), api.OK}, {2000000, span(700, 4300), mm, dim(2000000, 2000000, 2001800), dim(2000000, 1997500, 1999300), api.OK}, {2000000, span(-1000, 1000), mm, dim(2000000, 2000000, 2001000), dim(2000000, 2000000, 2001000), api.OK}, {2000000, span(-4100, -700), mm, dim(2000000, 2000000, 2001700), dim(2000000, 2002400, 2004100), api.OK},
		{2540000, span(0, 1270), inch, dim(2540000, 2540000, 2540508), dim(2540000, 2539238, 2540000), api.OK}, {2540000, span(100, 1370), inch, dim(2540000, 2540000, 2540508), dim(2540000, 2539238, 2539746), api.OK}, {2540000, span(0, 508), inch, dim(2540000, 2540000, 2540254), dim(2540000, 2539746, 2540000), api.OK}, {2540000, span(0, 507), inch, same(2540000), dim(2540000, 2539746, 2540000), api.OK}, {254, span(0, 0), inch, same(254), same(254), api.OK},
		{2540000, span(0, 0), mm, same(2540000), same(2540000), api.OK}, {2540000, span(100, 199), mm, same(2540000), dim(2540000, 2539900, 2539900), api.OK}, {2540000, span(101, 199), mm, api.Dim{}, api.Dim{}, api.ErrNone}, {2540000, span(5, 5), mm, api.Dim{}, api.Dim{}, api.ErrNone}, {2540000, span(1, 253), inch, api.Dim{}, api.Dim{}, api.ErrNone},
		{0, span(0, 300), mm, dim(0, 0, 100), same(0), api.OK}, {0, span(100, 300), mm, api.Dim{}, api.Dim{}, api.ErrNone}, {0, span(1, 1), mm, api.Dim{}, api.Dim{}, api.ErrNone}, {0, span(-300, 0), mm, dim(0, 0, 100), dim(0, 100, 300), api.OK}, {most, span(0, 100), mm, same(most), dim(most, most-100, most), api.OK}, {most, span(0, 199), mm, same(most), dim(most, most-100, most), api.OK}, {most, span(0, 200), mm, api.Dim{}, api.Dim{}, api.ErrNone}, {most, span(-100, -100), mm, api.Dim{}, api.Dim{}, api.ErrNone}, {0, span(-most, most), mm, dim(0, 0, most), dim(0, 0, most), api.OK}, {100, span(-most, most), mm, api.Dim{}, api.Dim{}, api.ErrNone}, {most, span(-most, most), mm, api.Dim{}, api.Dim{}, api.ErrNone}, {0, span(-most, most), inch, dim(0, 0, 999999778), dim(0, 0, 999999778), api.OK}, {254, span(-most, most), inch, api.Dim{}, api.Dim{}, api.ErrNone}, {999999778, span(0, 0), inch, same(999999778), same(999999778), api.OK}, {999999778, span(0, 508), inch, api.Dim{}, api.Dim{}, api.ErrNone}, {most, span(most, most), mm, same(most), dim(most, 0, 0), api.OK}, {0, span(-most, -most), mm, same(0), dim(0, most, most), api.OK}, {0, span(-most, -most), inch, api.Dim{}, api.Dim{}, api.ErrNone},
		{2000000, span(700, 4100), inch, api.Dim{}, api.Dim{}, api.ErrStep}, {50, span(0, 0), mm, api.Dim{}, api.Dim{}, api.ErrStep}, {1, span(1, 1), inch, api.Dim{}, api.Dim{}, api.ErrStep}, {most, span(0, 0), inch, api.Dim{}, api.Dim{}, api.ErrStep}, {most - 1, span(0, most), mm, api.Dim{}, api.Dim{}, api.ErrStep},
	} {
		if a, b, e := size.Share(x.nominal, x.want, x.unit); a != x.hole || b != x.shaft || e != x.e {
			t.Error(x.nominal, x.want, x.unit, a, b, e)
		}
	}
}

// P1.7, R1: ErrArg, then ErrUnit, then ErrStep, then ErrNone.
func TestShareErrors(t *testing.T) {
	none := func(nominal int, want api.Span, unit uint8, e api.Errno) {
		t.Helper()
		if a, b, f := size.Share(nominal, want, unit); a != (api.Dim{}) || b != (api.Dim{}) || f != e {
			t.Error(nominal, want, unit, a, b, f)
		}
	}
	for _, unit := range []uint8{mm, inch, 0, 3, 255} {
		for _, nominal := range []int{-1, -100, -254, most + 1, most + 100, -1 << 32, 1 << 32, math.MinInt, math.MaxInt} {
			none(nominal, span(0, 0), unit, api.ErrArg)
			none(nominal, span(1, 0), unit, api.ErrArg)
		}
		for _, want := range wrongWants() {
			none(0, want, unit, api.ErrArg)
			none(51, want, unit, api.ErrArg)
			none(most, want, unit, api.ErrArg)
		}
	}
	for _, unit := range []uint8{0, 3, 4, 255} {
		none(0, span(0, 0), unit, api.ErrUnit)
		none(51, span(0, 0), unit, api.ErrUnit)
		none(most, span(-most, most), unit, api.ErrUnit)
		none(12700, span(5, 5), unit, api.ErrUnit)
	}
	none(51, span(5, 5), mm, api.ErrStep)
	none(most, span(-most, most), inch, api.ErrStep)
}

// P1.15: what is shared is exact, fits as wanted, and the hole has as many steps as are at most half of it; the shaft is the widest.
func TestShareFits(t *testing.T) {
	r := rand.New(rand.NewSource(15))
	good := 0
	for range 20000 {
		unit := uint8(1 + r.Intn(2))
		step := stepOf(unit)
		nominal := r.Intn(most/step+1) * step
		lo := r.Intn(20000) - 10000
		want := span(lo, lo+r.Intn(8*step))
		hole, shaft, e := size.Share(nominal, want, unit)
		if e != api.OK {
			if e != api.ErrNone || want.Hi-want.Lo >= 2*step && nominal > 20000 && nominal < most-20000 {
				t.Fatal(nominal, want, unit, e)
			}
			continue
		}
		good++
		part, wide := hole.Upper-hole.Lower, want.Hi-want.Lo
		if hole.Nominal != nominal || hole.Lower != nominal || part%step != 0 || 2*part > wide || 2*(part+step) <= wide {
			t.Fatal(nominal, want, unit, hole)
		}
		c, _, f := size.Fit(hole, shaft)
		exact, _ := size.Exact(shaft)
		if f != api.OK || c.Lo < want.Lo || c.Hi > want.Hi || exact&unit == 0 || shaft.Nominal != nominal {
			t.Fatal(nominal, want, unit, hole, shaft, c, f)
		}
		if c.Lo-step >= want.Lo && shaft.Upper+step <= most || c.Hi+step <= want.Hi && shaft.Lower >= step {
			t.Fatal(nominal, want, unit, hole, shaft, "could be wider")
		}
	}
	if good < 1000 {
		t.Error("few were shared:", good)
	}
}
