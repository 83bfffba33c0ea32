package size_test

import (
	"math"
	"math/rand"
	"testing"

	"blueline/api"
	"blueline/size"
)

const (
	mm   = api.UnitMm
	inch = api.UnitInch
	most = api.MaxSize
)

// Of the chapter's examples.
var (
	exampleD = dim(2000000, 2000000, 2002100)
	exampleS = dim(2000000, 1998000, 1999300)
	exampleP = dim(2000000, 2001500, 2002800)
)

func dim(nominal, lower, upper int) api.Dim {
	return api.Dim{Nominal: nominal, Lower: lower, Upper: upper}
}

func span(lo, hi int) api.Span { return api.Span{Lo: lo, Hi: hi} }

// same returns a size of one number, thrice.
func same(n int) api.Dim { return dim(n, n, n) }

func stepOf(unit uint8) int {
	if unit == inch {
		return 254
	}
	return 100
}

// invalid returns sizes that are none.
func invalid() []api.Dim {
	return []api.Dim{
		dim(0, 1, 0), dim(5, 7, 6), dim(0, most, 0), dim(0, most, most-1),
		dim(-1, 0, 0), dim(0, -1, 0), dim(-1, -1, -1), dim(0, -5, -4), dim(0, 0, -1),
		dim(most+1, 0, 0), dim(0, 0, most+1), dim(0, most+1, most+1), dim(most+100, most+100, most+100),
		dim(math.MinInt, 0, 0), dim(0, math.MinInt, 0), dim(0, math.MinInt, math.MaxInt), dim(0, 0, math.MaxInt),
		dim(math.MaxInt, 0, 0), dim(0, math.MaxInt, math.MaxInt), dim(0, math.MinInt, math.MinInt), dim(0, math.MaxInt, math.MinInt),
		dim(1<<32, 0, 0), dim(0, 1<<32, 1<<32), dim(0, 0, 1<<32), dim(-1<<32, 0, 0), dim(0, -1<<32, 0),
	}
}

// edges returns valid sizes of which something is at its end.
func edges() []api.Dim {
	return []api.Dim{
		dim(0, 0, 0), same(1), same(100), same(254), same(12700), same(1270000), same(2540000), same(most), same(most - 1), same(999999778),
		dim(0, 0, most), dim(most, 0, 0), dim(most, 0, most), dim(0, most, most), dim(most, most-1, most), dim(0, 1, 99), dim(0, 0, 99),
		dim(0, 1, 100), dim(0, 255, 507), dim(0, 255, 508), dim(127, 0, 254), dim(128, 0, 253), dim(50, 0, 0), dim(51, 0, 0),
		dim(most, 999999778, most), dim(most, 999999779, most), dim(999999905, 0, most), dim(999999951, 0, most), dim(5, 6, 9), dim(5, 0, 4),
		exampleD, exampleS, exampleP,
	}
}

// someDim returns any valid size: narrow or wide, low or high, of round numbers or not.
func someDim(r *rand.Rand) api.Dim {
	round := []int{1, 1, 100, 254, 12700}[r.Intn(5)]
	number := func(top int) int { return r.Intn(top/round+1) * round }
	lower := number([]int{1000, 100000, most}[r.Intn(3)])
	upper := min(lower+number([]int{300, 3000, 1000000}[r.Intn(3)]), most)
	switch r.Intn(4) {
	case 0:
		return dim(number(most), lower, upper)
	case 1:
		return dim(most-lower, most-upper, most-lower)
	case 2:
		return dim(upper, lower, upper)
	}
	return dim(lower, lower, upper)
}

// P1.1: numbers from 0 to MaxSize, Lower not above Upper; Nominal may be outside.
func TestCheck(t *testing.T) {
	for _, d := range edges() {
		if e := size.Check(d); e != api.OK {
			t.Error(d, e)
		}
	}
	for _, d := range invalid() {
		if e := size.Check(d); e != api.ErrDim {
			t.Error(d, e)
		}
	}
}

// P1.1, R1, R2: each function with sizes returns ErrDim first, and nothing else with it.
func TestInvalidFirst(t *testing.T) {
	good, badWant := same(5), span(1, 0)
	for _, d := range invalid() {
		if n, e := size.Exact(d); n != 0 || e != api.ErrDim {
			t.Error("Exact", d, n, e)
		}
		for _, unit := range []uint8{mm, inch, 0, 3, 255} {
			if s, e := size.Write(d, unit); s != "" || e != api.ErrDim {
				t.Error("Write", d, unit, s, e)
			}
			if c, e := size.Convert(d, unit); c != (api.Dim{}) || e != api.ErrDim {
				t.Error("Convert", d, unit, c, e)
			}
			if low, high, e := size.Lost(d, unit); low != 0 || high != 0 || e != api.ErrDim {
				t.Error("Lost", d, unit, low, high, e)
			}
		}
		for _, units := range [][]uint8{nil, {}, {mm}, {0}, make([]uint8, 21)} {
			if c, e := size.Redraw(d, units); c != (api.Dim{}) || e != api.ErrDim {
				t.Error("Redraw", d, units, c, e)
			}
		}
		for _, x := range [][2]api.Dim{{d, good}, {good, d}, {d, d}} {
			if in, e := size.Inside(x[0], x[1]); in || e != api.ErrDim {
				t.Error("Inside", x, in, e)
			}
			if c, k, e := size.Fit(x[0], x[1]); c != (api.Span{}) || k != 0 || e != api.ErrDim {
				t.Error("Fit", x, c, k, e)
			}
		}
		for _, want := range []api.Span{span(-most, most), badWant, span(math.MinInt, math.MaxInt)} {
			if s, e := size.Room(d, want); s != (api.Dim{}) || e != api.ErrDim {
				t.Error("Room", d, want, s, e)
			}
		}
	}
}

// P1.1: the units are added up, and all three numbers have to be multiples of the step.
func TestExact(t *testing.T) {
	for _, x := range []struct {
		d    api.Dim
		want uint8
	}{
		{exampleD, 1}, {same(1270000), 3}, {same(0), 3}, {same(12700), 3}, {same(6350), 2}, {same(12699), 0}, {same(25400), 3}, {same(100), 1}, {same(254), 2}, {same(1), 0},
		{dim(100, 0, 300), 1}, {dim(101, 0, 300), 0}, {dim(100, 1, 300), 0}, {dim(100, 0, 301), 0}, {dim(254, 0, 508), 2}, {dim(255, 0, 508), 0}, {dim(254, 253, 508), 0}, {dim(254, 0, 507), 0},
		{dim(100, 254, 508), 0}, {dim(254, 100, 300), 0}, {dim(12700, 0, 25400), 3}, {dim(12700, 100, 25400), 1}, {dim(12700, 254, 25400), 2}, {dim(254, 12700, 25400), 2}, {dim(12700, 12700, 12800), 1},
		{same(most), 1}, {same(999999778), 2}, {dim(most, 0, 0), 1}, {dim(most, 0, 254), 0}, {dim(999999778, 0, 0), 2}, {dim(999998800, 999998800, 999998800), 1}, {dim(0, 0, 999986200), 1},
	} {
		if n, e := size.Exact(x.d); n != x.want || e != api.OK {
			t.Error(x.d, n, e)
		}
	}
}

// P1.11: exact in both units if and only if the numbers are multiples of 12,700.
func TestExactInBoth(t *testing.T) {
	r := rand.New(rand.NewSource(11))
	both := 0
	for range 20000 {
		d := someDim(r)
		n, e := size.Exact(d)
		multiples := d.Nominal%12700 == 0 && d.Lower%12700 == 0 && d.Upper%12700 == 0
		if e != api.OK || (n == 3) != multiples {
			t.Fatal(d, n, e)
		}
		for _, unit := range []uint8{mm, inch} {
			s := stepOf(unit)
			if (n&unit != 0) != (d.Nominal%s == 0 && d.Lower%s == 0 && d.Upper%s == 0) {
				t.Fatal(d, n, unit)
			}
		}
		if multiples {
			both++
		}
	}
	if both == 0 {
		t.Error("no such size was tried")
	}
}

// P1.4: a is inside b if all of its sizes are sizes of b; the nominal numbers do not matter.
func TestInside(t *testing.T) {
	for _, x := range []struct {
		a, b api.Dim
		want bool
	}{
		{exampleD, exampleD, true}, {exampleD, exampleP, false}, {exampleP, exampleD, false},
		{dim(0, 2000000, 2002100), exampleD, true}, {dim(0, 2000001, 2002099), exampleD, true}, {dim(0, 1999999, 2002100), exampleD, false}, {dim(0, 2000000, 2002101), exampleD, false},
		{dim(2000000, 0, 1), exampleD, false}, {dim(5, 2002101, 2002102), exampleD, false}, {same(0), dim(9, 0, 0), true}, {dim(0, 0, most), dim(7, 0, most), true}, {dim(0, 0, most), dim(0, 0, most-1), false}, {dim(0, 0, most), dim(0, 1, most), false},
	} {
		if in, e := size.Inside(x.a, x.b); in != x.want || e != api.OK {
			t.Error(x.a, x.b, in, e)
		}
	}
	everyPair(5, func(a, b api.Dim) {
		want := true
		for n := a.Lower; n <= a.Upper; n++ {
			want = want && n >= b.Lower && n <= b.Upper
		}
		if in, e := size.Inside(a, b); in != want || e != api.OK {
			t.Error(a, b, in, e)
		}
	})
}

// everyPair calls a function with all pairs of sizes below a number.
func everyPair(top int, do func(a, b api.Dim)) {
	for la := range top {
		for ua := la; ua < top; ua++ {
			for lb := range top {
				for ub := lb; ub < top; ub++ {
					do(dim(top-1, la, ua), dim(0, lb, ub))
				}
			}
		}
	}
}

// P1.8: what all of a list have, its errors, and their order.
func TestMeet(t *testing.T) {
	twenty := make([]api.Dim, 20)
	for i := range twenty {
		twenty[i] = dim(0, i, 1000-i)
	}
	last := append([]api.Dim(nil), twenty...)
	last[19] = dim(0, 1, 0)
	apart := append([]api.Dim(nil), twenty...)
	apart[19] = same(1000)
	for i, x := range []struct {
		l    []api.Dim
		want api.Span
		e    api.Errno
	}{
		{[]api.Dim{exampleD, exampleP}, span(2001500, 2002100), api.OK}, {[]api.Dim{exampleP, exampleD}, span(2001500, 2002100), api.OK}, {[]api.Dim{exampleD, exampleS}, api.Span{}, api.ErrNone},
		{nil, api.Span{}, api.ErrNone}, {[]api.Dim{}, api.Span{}, api.ErrNone}, {[]api.Dim{exampleD}, span(2000000, 2002100), api.OK}, {[]api.Dim{dim(77, 0, most)}, span(0, most), api.OK}, {[]api.Dim{same(most)}, span(most, most), api.OK}, {[]api.Dim{same(0), same(0)}, span(0, 0), api.OK},
		{[]api.Dim{dim(0, 1, 5), dim(0, 5, 9)}, span(5, 5), api.OK}, {[]api.Dim{dim(0, 1, 5), dim(0, 6, 9)}, api.Span{}, api.ErrNone}, {[]api.Dim{dim(0, 1, 9), dim(0, 5, 20), dim(0, 3, 7)}, span(5, 7), api.OK}, {[]api.Dim{dim(0, 0, 5), dim(0, 3, 9), dim(0, 6, 9)}, api.Span{}, api.ErrNone},
		{twenty, span(19, 981), api.OK}, {apart, api.Span{}, api.ErrNone}, {last, api.Span{}, api.ErrDim}, {append(twenty[:20:20], same(50)), api.Span{}, api.ErrMany}, {append(last[:20:20], same(50)), api.Span{}, api.ErrMany}, {make([]api.Dim, 5000), api.Span{}, api.ErrMany},
		{[]api.Dim{dim(0, 1, 0)}, api.Span{}, api.ErrDim}, {[]api.Dim{same(1), same(2), dim(0, 0, most+1)}, api.Span{}, api.ErrDim},
	} {
		if s, e := size.Meet(x.l); s != x.want || e != x.e {
			t.Error(i, s, e)
		}
	}
	for _, d := range invalid() {
		for _, l := range [][]api.Dim{{d}, {d, same(5)}, {same(5), same(6), d}} {
			if s, e := size.Meet(l); s != (api.Span{}) || e != api.ErrDim {
				t.Error(l, s, e)
			}
		}
	}
	everyPair(5, func(a, b api.Dim) { meetIsAll(t, 5, a, b, dim(0, 1, 3)) })
}

// meetIsAll checks that what sizes meet in is just the numbers below top that all of them have.
func meetIsAll(t *testing.T, top int, l ...api.Dim) {
	t.Helper()
	s, e := size.Meet(l)
	some := false
	for n := range top {
		all := true
		for _, d := range l {
			all = all && n >= d.Lower && n <= d.Upper
		}
		some = some || all
		if all != (e == api.OK && n >= s.Lo && n <= s.Hi) {
			t.Error(l, s, e, n)
		}
	}
	if some != (e == api.OK) || !some && (e != api.ErrNone || s != (api.Span{})) {
		t.Error(l, s, e)
	}
}
