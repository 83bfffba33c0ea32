package size_test

import (
	"math/rand"
	"testing"

	"blueline/api"
	"blueline/size"
)

// drawnAgain is a size drawn again, by going through multiples; Lower is above Upper if it has no sizes. It is slow but for small numbers and those near to MaxSize.
func drawnAgain(d api.Dim, unit uint8) api.Dim {
	step := stepOf(unit)
	far := func(n int) int { return max(n-d.Nominal, d.Nominal-n) }
	start := max(0, min(d.Nominal, d.Lower)/step-2) * step
	again := dim(start, -1, -2)
	for n := start; n <= max(d.Nominal, d.Upper)+2*step && n <= most; n += step {
		if far(n) < far(again.Nominal) {
			again.Nominal = n
		}
		if n >= d.Lower && n <= d.Upper {
			if again.Lower < 0 {
				again.Lower = n
			}
			again.Upper = n
		}
	}
	return again
}

// checkAgain checks Convert, Redraw and Lost of a size in a unit.
func checkAgain(t *testing.T, d api.Dim, unit uint8, want api.Dim, low, high int, e api.Errno) {
	t.Helper()
	if x, f := size.Convert(d, unit); x != want || f != e {
		t.Error("Convert", d, unit, x, f)
	}
	if x, f := size.Redraw(d, []uint8{unit}); x != want || f != e {
		t.Error("Redraw", d, unit, x, f)
	}
	if l, h, f := size.Lost(d, unit); l != low || h != high || f != e {
		t.Error("Lost", d, unit, l, h, f)
	}
}

// P1.3: the example, the nominal number halfway and at the end, and sizes without a multiple.
func TestConvert(t *testing.T) {
	for _, x := range []struct {
		d         api.Dim
		unit      uint8
		want      api.Dim
		low, high int
		e         api.Errno
	}{
		{exampleD, inch, dim(1999996, 2000250, 2002028), 250, 72, api.OK}, {exampleD, mm, exampleD, 0, 0, api.OK}, {dim(1999996, 2000250, 2002028), mm, dim(2000000, 2000300, 2002000), 50, 28, api.OK}, {same(0), inch, same(0), 0, 0, api.OK}, {same(1270000), inch, same(1270000), 0, 0, api.OK},
		{dim(50, 0, 0), mm, same(0), 0, 0, api.OK}, {dim(51, 0, 0), mm, dim(100, 0, 0), 0, 0, api.OK}, {dim(49, 0, 0), mm, same(0), 0, 0, api.OK}, {dim(150, 0, 0), mm, dim(100, 0, 0), 0, 0, api.OK}, {dim(151, 0, 0), mm, dim(200, 0, 0), 0, 0, api.OK}, {dim(127, 0, 0), inch, same(0), 0, 0, api.OK}, {dim(128, 0, 0), inch, dim(254, 0, 0), 0, 0, api.OK}, {dim(381, 0, 0), inch, dim(254, 0, 0), 0, 0, api.OK}, {dim(382, 0, 0), inch, dim(508, 0, 0), 0, 0, api.OK},
		{dim(most, 0, 0), inch, dim(999999778, 0, 0), 0, 0, api.OK}, {dim(most-1, 0, 0), inch, dim(999999778, 0, 0), 0, 0, api.OK}, {dim(999999905, 0, 0), inch, dim(999999778, 0, 0), 0, 0, api.OK}, {dim(999999906, 0, 0), inch, dim(999999778, 0, 0), 0, 0, api.OK}, {dim(999999951, 0, 0), mm, dim(most, 0, 0), 0, 0, api.OK}, {dim(999999950, 0, 0), mm, dim(999999900, 0, 0), 0, 0, api.OK}, {dim(999999651, 0, 0), inch, dim(999999524, 0, 0), 0, 0, api.OK}, {dim(999999652, 0, 0), inch, dim(999999778, 0, 0), 0, 0, api.OK},
		{dim(0, 1, 99), mm, api.Dim{}, 0, 0, api.ErrNone}, {dim(0, 1, 100), mm, dim(0, 100, 100), 99, 0, api.OK}, {dim(0, 0, 99), mm, same(0), 0, 99, api.OK}, {dim(500, 101, 199), mm, api.Dim{}, 0, 0, api.ErrNone}, {dim(0, 1, 253), inch, api.Dim{}, 0, 0, api.ErrNone}, {dim(0, 1, 254), inch, dim(0, 254, 254), 253, 0, api.OK}, {dim(0, 0, 253), inch, same(0), 0, 253, api.OK}, {dim(0, 255, 507), inch, api.Dim{}, 0, 0, api.ErrNone}, {dim(0, 255, 508), inch, dim(0, 508, 508), 253, 0, api.OK}, {same(1), mm, api.Dim{}, 0, 0, api.ErrNone}, {same(100), inch, api.Dim{}, 0, 0, api.ErrNone},
		{dim(most, 999999778, most), inch, same(999999778), 0, 222, api.OK}, {dim(most, 999999779, most), inch, api.Dim{}, 0, 0, api.ErrNone}, {same(most), inch, api.Dim{}, 0, 0, api.ErrNone}, {dim(0, 0, most), inch, dim(0, 0, 999999778), 0, 222, api.OK}, {dim(0, 1, most), mm, dim(0, 100, most), 99, 0, api.OK}, {dim(0, 1, most-1), mm, dim(0, 100, most-100), 99, 99, api.OK},
		{exampleD, 0, api.Dim{}, 0, 0, api.ErrUnit}, {exampleD, 3, api.Dim{}, 0, 0, api.ErrUnit}, {exampleD, 255, api.Dim{}, 0, 0, api.ErrUnit}, {same(1), 0, api.Dim{}, 0, 0, api.ErrUnit}, {same(12700), 3, api.Dim{}, 0, 0, api.ErrUnit},
	} {
		checkAgain(t, x.d, x.unit, x.want, x.low, x.high, x.e)
	}
}

// P1.3, P1.9: all small sizes, and all at the end, as they are when the multiples are gone through.
func TestConvertAll(t *testing.T) {
	for _, from := range []int{0, most - 760} {
		for lower := from; lower <= from+760; lower += 19 {
			for upper := lower; upper <= from+760; upper += 20 {
				for nominal := from; nominal <= from+760; nominal += 127 {
					for _, unit := range []uint8{mm, inch} {
						d := dim(nominal, lower, upper)
						want := drawnAgain(d, unit)
						if want.Lower > want.Upper {
							checkAgain(t, d, unit, api.Dim{}, 0, 0, api.ErrNone)
							continue
						}
						checkAgain(t, d, unit, want, want.Lower-lower, upper-want.Upper, api.OK)
					}
				}
			}
		}
	}
}

// P1.3: whichever number is the nominal one, it is drawn as the nearest multiple, the smaller one of two.
func TestConvertNominal(t *testing.T) {
	for _, from := range []int{0, most - 800} {
		for nominal := from; nominal <= from+800; nominal++ {
			for _, unit := range []uint8{mm, inch} {
				d := dim(nominal, 0, 0)
				want := dim(drawnAgain(dim(nominal, nominal, nominal), unit).Nominal, 0, 0)
				if x, e := size.Convert(d, unit); x != want || e != api.OK {
					t.Fatal(d, unit, x, e)
				}
			}
		}
	}
}

// P1.9: drawn again a size is inside, exact, and no wider one is; less than a step is lost at either end.
func TestWidest(t *testing.T) {
	r := rand.New(rand.NewSource(9))
	none := 0
	for range 20000 {
		d, unit := someDim(r), uint8(1+r.Intn(2))
		step := stepOf(unit)
		x, e := size.Convert(d, unit)
		if e == api.ErrNone {
			none++
			if d.Lower%step == 0 || d.Lower/step != d.Upper/step {
				t.Fatal(d, unit, "has a multiple")
			}
			continue
		}
		exact, _ := size.Exact(x)
		in, _ := size.Inside(x, d)
		if e != api.OK || exact&unit == 0 || !in {
			t.Fatal(d, unit, x, e, exact, in)
		}
		low, high, f := size.Lost(d, unit)
		if f != api.OK || low != x.Lower-d.Lower || high != d.Upper-x.Upper || low < 0 || low >= step || high < 0 || high >= step {
			t.Fatal(d, unit, x, low, high, f)
		}
		if far := x.Nominal - d.Nominal; 2*far >= step || 2*far < -step && x.Nominal+step <= most {
			t.Fatal(d, unit, x)
		}
	}
	if none == 0 {
		t.Error("no size without a multiple was tried")
	}
}

// P1.3: one after the other; the errors and their order; without units it is as it is.
func TestRedraw(t *testing.T) {
	turns := func(n int) []uint8 {
		l := make([]uint8, n)
		for i := range l {
			l[i] = []uint8{inch, mm}[i%2]
		}
		return l
	}
	wide := dim(12700, 0, 25400)
	for i, x := range []struct {
		d     api.Dim
		units []uint8
		want  api.Dim
		e     api.Errno
	}{
		{exampleD, []uint8{inch, mm}, dim(2000000, 2000300, 2002000), api.OK}, {exampleD, []uint8{mm, inch}, dim(1999996, 2000250, 2002028), api.OK}, {exampleD, []uint8{inch, mm, inch}, dim(1999996, 2000504, 2001774), api.OK}, {exampleD, turns(4), dim(2000000, 2000600, 2001700), api.OK}, {exampleD, turns(10), api.Dim{}, api.ErrNone}, {exampleD, turns(20), api.Dim{}, api.ErrNone}, {exampleD, []uint8{inch, inch, mm, mm}, dim(2000000, 2000300, 2002000), api.OK},
		{exampleD, nil, exampleD, api.OK}, {exampleD, []uint8{}, exampleD, api.OK}, {same(1), nil, same(1), api.OK}, {same(most), []uint8{}, same(most), api.OK}, {dim(7, 1, 99), nil, dim(7, 1, 99), api.OK},
		{wide, turns(20), wide, api.OK}, {wide, turns(21), api.Dim{}, api.ErrMany}, {wide, make([]uint8, 20), api.Dim{}, api.ErrUnit}, {wide, make([]uint8, 21), api.Dim{}, api.ErrMany}, {wide, make([]uint8, 100000), api.Dim{}, api.ErrMany}, {wide, append(turns(19), 0), api.Dim{}, api.ErrUnit}, {wide, append(turns(19), 3), api.Dim{}, api.ErrUnit}, {wide, []uint8{255}, api.Dim{}, api.ErrUnit}, {wide, []uint8{mm, 3, mm}, api.Dim{}, api.ErrUnit},
		{same(1), []uint8{mm, 0}, api.Dim{}, api.ErrUnit}, {same(1), append(turns(19), 0), api.Dim{}, api.ErrUnit}, {same(1), turns(21), api.Dim{}, api.ErrMany}, {same(100), []uint8{mm, inch}, api.Dim{}, api.ErrNone}, {same(100), []uint8{inch, mm}, api.Dim{}, api.ErrNone}, {dim(0, 1, 99), []uint8{mm, inch, mm}, api.Dim{}, api.ErrNone}, {dim(0, 200, 300), []uint8{inch, mm}, api.Dim{}, api.ErrNone},
	} {
		if y, e := size.Redraw(x.d, x.units); y != x.want || e != x.e {
			t.Error(i, y, e)
		}
	}
}

// P1.10: inside however often it is drawn again, as one after the other is; less is lost than all steps; nothing in a unit in which it is exact.
func TestAgainAndAgain(t *testing.T) {
	r := rand.New(rand.NewSource(10))
	drawn := 0
	for range 20000 {
		d := someDim(r)
		units := make([]uint8, r.Intn(21))
		want, e, steps := d, api.OK, 0
		for i := range units {
			units[i] = uint8(1 + r.Intn(2))
			steps += stepOf(units[i])
			if e == api.OK {
				want, e = size.Convert(want, units[i])
			}
		}
		x, f := size.Redraw(d, units)
		if x != want || f != e {
			t.Fatal(d, units, x, f, want, e)
		}
		if e != api.OK {
			continue
		}
		drawn++
		if in, g := size.Inside(x, d); !in || g != api.OK || len(units) > 0 && (x.Lower-d.Lower >= steps || d.Upper-x.Upper >= steps) {
			t.Fatal(d, units, x, in, g)
		}
		nothingLost(t, x)
	}
	if drawn < 5000 {
		t.Error("few sizes were drawn again:", drawn)
	}
}

// nothingLost checks that a size stays as it is in units in which it is exact.
func nothingLost(t *testing.T, d api.Dim) {
	t.Helper()
	exact, _ := size.Exact(d)
	for _, unit := range []uint8{mm, inch} {
		if exact&unit == 0 {
			continue
		}
		low, high, e := size.Lost(d, unit)
		if x, f := size.Redraw(d, []uint8{unit, unit, unit}); x != d || f != api.OK || low != 0 || high != 0 || e != api.OK {
			t.Fatal(d, unit, x, f, low, high, e)
		}
	}
}
