package size_test

import (
	"fmt"
	"math"
	"slices"
	"testing"

	"blueline/api"
	"blueline/size"
	"blueline/trial"
)

// calls returns calls of all functions, with good and bad arguments, each with a text of its results.
func calls() []func() string {
	var l []func() string
	dims := append(edges(), invalid()...)
	units := []uint8{mm, inch, 0, 3, 255}
	numbers := []int{0, 1, -1, 254, 2000000, most, -most, most + 1, math.MaxInt, math.MinInt}
	for i, d := range dims {
		other := dims[(i*7+3)%len(dims)]
		l = append(l,
			func() string { return fmt.Sprint(size.Check(d)) },
			func() string { return fmt.Sprint(size.Exact(d)) },
			func() string { return fmt.Sprint(size.Inside(d, other)) },
			func() string { return fmt.Sprint(size.Fit(d, other)) },
			func() string { return fmt.Sprint(size.Meet([]api.Dim{d, other})) })
		for _, unit := range units {
			l = append(l,
				func() string { return fmt.Sprint(size.Write(d, unit)) },
				func() string { return fmt.Sprint(size.Convert(d, unit)) },
				func() string { return fmt.Sprint(size.Lost(d, unit)) },
				func() string { return fmt.Sprint(size.Redraw(d, []uint8{mm, inch, unit})) })
		}
		for _, lo := range numbers {
			for _, hi := range numbers {
				l = append(l, func() string { return fmt.Sprint(size.Room(d, span(lo, hi))) })
			}
		}
	}
	for _, nominal := range numbers {
		for _, hi := range numbers {
			for _, unit := range units {
				l = append(l, func() string { return fmt.Sprint(size.Share(nominal, span(0, hi), unit)) })
			}
		}
	}
	for _, s := range append(wrongTexts(), "20.000 +0.000 +0.021 mm", "0.7874 +0.0001 +0.0008 in") {
		l = append(l, func() string { return fmt.Sprint(size.Read(s)) })
	}
	return l
}

// R3, R7: a call returns what it does, whatever was called before it, or is called beside it; none panics.
func TestNothingIsRemembered(t *testing.T) {
	for _, wrong := range trial.Unsteady(calls()) {
		t.Error(wrong)
	}
}

// R3: lists are not written to, nor is the memory behind their ends, and what is there does not matter.
func TestArgumentsAreNotWritten(t *testing.T) {
	for _, behind := range []uint8{0, mm, 9} {
		units := []uint8{inch, mm, inch, behind, behind, behind}
		before := slices.Clone(units)
		for n := range 4 {
			x, e := size.Redraw(exampleD, units[:n])
			y, f := size.Redraw(exampleD, slices.Clone(units[:n]))
			if x != y || e != f || e != api.OK || !slices.Equal(units, before) {
				t.Error(n, x, e, y, f, units)
			}
		}
		if _, e := size.Redraw(same(1), units[:3]); e != api.ErrNone || !slices.Equal(units, before) {
			t.Error(e, units)
		}
		if _, e := size.Redraw(exampleD, append(units[:2:6], 7)); e != api.ErrUnit || units[3] != behind {
			t.Error(e, units)
		}
	}
	for _, behind := range []api.Dim{dim(0, 1, 0), same(0), same(2002000)} {
		dims := []api.Dim{exampleP, exampleD, dim(9, 2001000, 2002000), behind, behind}
		before := slices.Clone(dims)
		for n := range 3 {
			x, e := size.Meet(dims[:n+1])
			y, f := size.Meet(slices.Clone(dims[:n+1]))
			if x != y || e != f || e != api.OK || !slices.Equal(dims, before) {
				t.Error(n, x, e, y, f, dims)
			}
		}
	}
}

// R5: numbers far outside, whose sums and products overflow, lead to the error that is named.
func TestGreatNumbers(t *testing.T) {
	far := []int{most + 1, most * 2, 1 << 31, 1 << 32, 1<<32 + 100, 1 << 62, math.MaxInt - 1, math.MaxInt, -1, -100, -most, -1 << 31, -1 << 32, -1 << 62, math.MinInt + 1, math.MinInt}
	for _, a := range far {
		for _, b := range append(far, 0, 100, 12700) {
			for _, d := range []api.Dim{dim(a, 0, 0), dim(a, b, b), dim(b, a, a), dim(b, b, a), dim(b, a, b), dim(0, a, 0), dim(0, 0, a)} {
				if e := size.Check(d); e != api.ErrDim {
					t.Error(d, e)
				}
				if _, e := size.Convert(d, mm); e != api.ErrDim {
					t.Error(d, e)
				}
				if _, e := size.Meet([]api.Dim{same(5), d}); e != api.ErrDim {
					t.Error(d, e)
				}
			}
		}
		if _, _, e := size.Share(a, span(0, 0), mm); e != api.ErrArg {
			t.Error(a, e)
		}
	}
}

// R6: a size is valid by its numbers alone, also one that no function would return.
func TestAnyValue(t *testing.T) {
	d := dim(7, 300, 500)
	if n, e := size.Exact(d); n != 0 || e != api.OK {
		t.Error(n, e)
	}
	if x, e := size.Convert(d, mm); x != dim(0, 300, 500) || e != api.OK {
		t.Error(x, e)
	}
	if x, e := size.Room(d, span(0, 500)); x != dim(7, 0, 300) || e != api.OK {
		t.Error(x, e)
	}
	for unit := range 256 {
		_, e := size.Convert(d, uint8(unit))
		if good := unit == mm || unit == inch; good != (e != api.ErrUnit) {
			t.Error(unit, e)
		}
	}
}
