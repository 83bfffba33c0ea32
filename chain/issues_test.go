package chain_test

import (
	"fmt"
	"math/rand"
	"slices"
	"testing"

	"blueline/api"
	"blueline/chain"
	"blueline/sheet"
	"blueline/size"
	"blueline/trial"
)

// with returns chains with an issue more, behind all others of its drawing, which has its letter.
func with(c api.Chains, x api.Issue) api.Chains {
	c = clone(c)
	l := c.Register.Issues
	behind := 0
	for i := range l {
		if l[i].Drawing <= x.Drawing {
			behind = i + 1
		}
	}
	c.Register.Issues = slices.Insert(l, behind, x)
	c.Letters[slices.Index(trial.DrawingsOf(api.Notes{Register: c.Register}), x.Drawing)] = x.Letter
	return c
}

// P6.5: the examples; sizes that stay, issues that there are, and tightening to nothing but the middle.
func TestTightenExamples(t *testing.T) {
	other := changed(func(c *api.Chains) { c.Letters[2], c.Loops = 1, []api.Loop{loop("3.0 5.0 -3.1", 0, 1)} })
	most := lettered(api.MaxLetter, 3, dim(5, 4, 6))
	wide := alone(1, 1, 1, dim(0, 0, api.MaxSize))
	for i, x := range []struct {
		c     api.Chains
		spots string
		grade int
		want  api.Chains
		e     api.Errno
	}{
		{example(), "2.0 3.0", 1, with(example(), part(2, 2, dim(100, 99, 101))), api.OK},
		{example(), "2.0", 1, with(example(), part(2, 2, dim(100, 99, 101))), api.OK},
		{example(), "3.0", 1, example(), api.OK},
		{example(), "2.0 3.0", 0, with(with(example(), part(2, 2, dim(100, 100, 100))), part(3, 2, dim(200, 200, 200))), api.OK},
		{example(), "2.0 3.0", 2, with(example(), part(2, 2, dim(100, 98, 102))), api.OK},
		{example(), "2.0 3.0", 3, example(), api.OK}, {example(), "2.0 3.0", api.MaxSize, example(), api.OK}, {example(), "", 0, example(), api.OK},
		// The issue that it has by Letters, with the letter behind the last one; all of its sizes; a nominal number that is outside.
		{shop(), "3.0 3.1", 0, with(shop(), part(3, 4, dim(10, 10, 10), dim(9, 8, 8), dim(50, 40, 60))), api.OK},
		{shop(), "3.1 3.2 5.0", 2, with(with(shop(), part(3, 4, dim(10, 9, 11), dim(9, 6, 8), dim(50, 48, 52))), part(5, 2, dim(20, 18, 22))), api.OK},
		{shop(), "3.0 3.2", 9, with(shop(), part(3, 4, dim(10, 9, 11), dim(9, 4, 8), dim(50, 41, 59))), api.OK},
		{other, "3.0", 1, with(other, part(3, 4, dim(10, 9, 11), dim(5, 5, 5))), api.OK}, {other, "3.1", 0, other, api.OK},
		{changed(func(c *api.Chains) { c.Register.Issues[6].Dims[0] = dim(1, 18, 25) }), "5.0", 3, changed(func(c *api.Chains) {
			c.Register.Issues[6].Dims[0] = dim(1, 18, 25)
			*c = with(*c, part(5, 2, dim(1, 18, 21)))
		}), api.OK},
		{wide, "2.0", api.MaxSize, wide, api.OK}, {wide, "2.0", api.MaxSize - 1, with(wide, part(2, 2, dim(0, 0, api.MaxSize-1))), api.OK},
		// No room, but for what has to be made.
		{most, "7.0", 0, api.Chains{}, api.ErrFull}, {most, "7.0", 1, most, api.OK}, {most, "", 0, most, api.OK},
		{lettered(7, 1, dim(5, 4, 6)), "7.0", 0, with(lettered(7, 1, dim(5, 4, 6)), part(7, 8, dim(5, 5, 5))), api.OK},
		{crowded(example(), 60), "2.0", 0, api.Chains{}, api.ErrFull}, {crowded(example(), 60), "3.0", 1, crowded(example(), 60), api.OK}, {crowded(example(), 60), "2.0 3.0", 1, api.Chains{}, api.ErrFull},
		{crowded(example(), 59), "2.0 3.0", 0, api.Chains{}, api.ErrFull}, {crowded(example(), 59), "2.0 3.0", 1, with(crowded(example(), 59), part(2, 2, dim(100, 99, 101))), api.OK}, {crowded(example(), 59), "3.0", 0, with(crowded(example(), 59), part(3, 2, dim(200, 200, 200))), api.OK},
		{crowded(example(), 58), "2.0 3.0", 0, with(with(crowded(example(), 58), part(2, 2, dim(100, 100, 100))), part(3, 2, dim(200, 200, 200))), api.OK},
	} {
		if c, e := chain.Tighten(x.c, spots(x.spots), x.grade); fmt.Sprint(c) != fmt.Sprint(x.want) || e != x.e {
			t.Error(i, c, e)
		}
	}
	tight, _ := chain.Tighten(example(), spots("2.0 3.0"), 1)
	if reach, e := chain.Reach(tight, 0); !slices.Equal(tight.Letters, []int{1, 2, 1, 1}) || reach != (api.Span{Lo: 2, Hi: 15}) || e != api.OK {
		t.Error(tight, reach, e)
	}
}

// P6.5: lists that are no spots, or not in order, and grades that are none; all that before there is no room.
func TestTightenErrors(t *testing.T) {
	full := crowded(shop(), api.MaxIssues)
	wrong := []string{"6.0", "3.0 6.0", "5.0 3.0", "3.1 3.0", "3.0 3.0", "3.0 5.0 5.0", "5.0 5.0", "5.1", "3.3", "3.-1", "3.0 3.-1", "2.0", "1.0", "9.0", "4.0", "0.0", "3.0 3.1 3.2 5.0 6.0", "3.0 3.1 3.2 5.0 3.0", "3.2 3.1", "3.0 3.2 3.1"}
	for _, c := range []api.Chains{shop(), full} {
		for _, grade := range []int{-1, 0, 1, api.MaxSize, api.MaxSize + 1} {
			for _, l := range wrong {
				if got, e := chain.Tighten(c, spots(l), grade); !isNothing(fmt.Sprint(got)) || e != api.ErrArg {
					t.Error(l, grade, got, e)
				}
			}
			if got, e := chain.Tighten(c, spots("3.2"), grade); (grade < 0 || grade > api.MaxSize) && (!isNothing(fmt.Sprint(got)) || e != api.ErrArg) {
				t.Error(grade, got, e)
			}
		}
	}
	if got, e := chain.Tighten(full, spots("3.2"), 0); !isNothing(fmt.Sprint(got)) || e != api.ErrFull {
		t.Error(got, e)
	}
	unlinked := changed(func(c *api.Chains) { c.Loops = c.Loops[1:4] })
	if got, e := chain.Tighten(unlinked, spots("3.2"), 0); !isNothing(fmt.Sprint(got)) || e != api.ErrArg {
		t.Error(got, e)
	}
}

// issuedAs returns chains with an issue more of each part of which a size is another one, as a function tells; and whether there is room.
func issuedAs(c api.Chains, sizeOf func(s api.Spot, d api.Dim) api.Dim) (api.Chains, bool) {
	made := c
	for _, it := range partsOf(c) {
		x := issueOf(c, it.Drawing)
		last, _ := sheet.Last(c.Register, it.Drawing)
		next := api.Issue{Drawing: x.Drawing, Letter: last + 1, Kind: x.Kind}
		for i, d := range x.Dims {
			next.Dims = append(next.Dims, sizeOf(api.Spot{Drawing: x.Drawing, Dim: i}, d))
		}
		if fmt.Sprint(next.Dims) != fmt.Sprint(x.Dims) {
			made = with(made, next)
		}
	}
	return made, chain.Check(made) == api.OK
}

// P6.5, P6.13: chains that are tightened, as the chapter says it.
func TestTighten(t *testing.T) {
	rnd := rand.New(rand.NewSource(73))
	made := map[int]int{}
	for range 3000 {
		c := someChains(rnd)
		l := slices.DeleteFunc(spotsOf(c), func(api.Spot) bool { return rnd.Intn(3) == 0 })
		grade := rnd.Intn(3)
		want, _ := issuedAs(c, func(s api.Spot, d api.Dim) api.Dim {
			if all := sizesOf(d, grade); slices.Contains(l, s) {
				d.Lower, d.Upper = all[0], all[len(all)-1]
			}
			return d
		})
		got, e := chain.Tighten(c, l, grade)
		if fmt.Sprint(got) != fmt.Sprint(want) || e != api.OK {
			t.Fatal(c, l, grade, got, e, want)
		}
		made[len(got.Register.Issues)-len(c.Register.Issues)]++
		checkIssues(t, c, got)
		for i, l := range c.Loops {
			was, now := sumsOf(c, l, loose), sumsOf(got, l, loose)
			if reach, e := chain.Reach(got, i); reach != (api.Span{Lo: now[0], Hi: now[len(now)-1]}) || was[0] > reach.Lo || reach.Hi > was[len(was)-1] || e != api.OK {
				t.Fatal(c, got, i, reach, e)
			}
		}
	}
	if min(made[0], made[1], made[2]) < 100 {
		t.Error("few of a kind:", made)
	}
}

// P6.13: new issues have the next letters, issues that were there stay as they were, and so do all other letters.
func checkIssues(t *testing.T, was, now api.Chains) {
	t.Helper()
	if e := chain.Check(now); e != api.OK || now.Of != was.Of || fmt.Sprint(now.Loops) != fmt.Sprint(was.Loops) {
		t.Fatal(was, now, e)
	}
	if merged, e := sheet.Merge(was.Register, now.Register); fmt.Sprint(merged) != fmt.Sprint(now.Register) || e != api.OK {
		t.Fatal(was, now, e)
	}
	for i, d := range trial.DrawingsOf(api.Notes{Register: was.Register}) {
		last, e := sheet.Last(was.Register, d)
		next, f := sheet.Last(now.Register, d)
		if e != api.OK || f != api.OK || next == last && now.Letters[i] != was.Letters[i] || next != last && (next != last+1 || now.Letters[i] != next) {
			t.Fatal(was, now, d)
		}
	}
}

// P6.6: sizes that are drawn again, and those that are not; what is of the parts of Of, whether it is in a loop or not.
func TestRedrawExamples(t *testing.T) {
	inch, mm := uint8(api.UnitInch), uint8(api.UnitMm)
	made := func(a, b, c api.Dim) api.Chains {
		return api.Chains{
			Register: trial.Register(assembly(1, 1, 2, 2, 3, 1, 4, 1), part(2, 1, a), part(3, 1, dim(0, 0, 0), b), standard(4, 1, c), part(5, 1, dim(1, 1, 1))),
			Letters:  []int{1, 1, 1, 1, 1}, Of: 1, Loops: []api.Loop{loop("2.0 -2.0", -99, 99)},
		}
	}
	d, again := dim(2000000, 2000000, 2002100), dim(1999996, 2000250, 2002028) // as in layer 1
	both := dim(12700, 12700, 25400)
	full := made(d, both, both)
	full.Register = trial.Register(assembly(1, 1, 2, 2, 3, 1, 4, 1), part(2, 1, d), part(2, 2), part(2, 3), part(2, 4), part(2, 5), part(2, 6), part(2, 7), part(2, 8), part(3, 1, both), standard(4, 1, both), part(5, 1))
	none := clone(full)
	none.Register.Issues[10].Dims[0] = dim(1, 1, 1)
	letter := made(d, both, d)
	letter.Register.Issues = slices.Insert(letter.Register.Issues, 2, part(2, 2, dim(1, 1, 1)))
	for i, x := range []struct {
		c    api.Chains
		unit uint8
		want api.Chains
		e    api.Errno
	}{
		{made(d, both, both), inch, with(made(d, both, both), part(2, 2, again)), api.OK}, {made(d, both, both), mm, made(d, both, both), api.OK},
		{made(both, d, both), inch, with(made(both, d, both), part(3, 2, dim(0, 0, 0), again)), api.OK}, {made(both, again, both), mm, with(made(both, again, both), part(3, 2, dim(0, 0, 0), dim(2000000, 2000300, 2002000))), api.OK},
		{made(both, both, d), inch, with(made(both, both, d), standard(4, 2, again)), api.OK}, {made(both, both, both), inch, made(both, both, both), api.OK},
		{made(d, d, d), inch, with(with(with(made(d, d, d), part(2, 2, again)), part(3, 2, dim(0, 0, 0), again)), standard(4, 2, again)), api.OK},
		// Just the nominal number, just an end.
		{made(dim(12701, 12700, 12700), both, both), mm, with(made(dim(12701, 12700, 12700), both, both), part(2, 2, dim(12700, 12700, 12700))), api.OK},
		{made(both, both, dim(12700, 12699, 12700)), mm, with(made(both, both, dim(12700, 12699, 12700)), standard(4, 2, dim(12700, 12700, 12700))), api.OK},
		{made(both, dim(12700, 12700, 12701), both), mm, with(made(both, dim(12700, 12700, 12701), both), part(3, 2, dim(0, 0, 0), dim(12700, 12700, 12700))), api.OK},
		// The issue by Letters alone; not those that Of does not need.
		{letter, inch, with(with(letter, part(2, 3, again)), standard(4, 2, again)), api.OK},
		{made(d, both, dim(1, 1, 1)), inch, api.Chains{}, api.ErrNone}, {made(d, dim(300, 300, 500), both), inch, api.Chains{}, api.ErrNone}, {made(d, dim(300, 300, 500), both), mm, made(d, dim(300, 300, 500), both), api.OK}, {made(dim(9, 101, 199), both, both), mm, api.Chains{}, api.ErrNone},
		{full, inch, api.Chains{}, api.ErrFull}, {full, mm, full, api.OK}, {none, inch, api.Chains{}, api.ErrNone}, {none, mm, api.Chains{}, api.ErrNone},
		{full, 0, api.Chains{}, api.ErrUnit}, {none, 3, api.Chains{}, api.ErrUnit}, {none, 255, api.Chains{}, api.ErrUnit}, {made(both, both, both), 4, api.Chains{}, api.ErrUnit}, {made(dim(1, 1, 1), both, both), 0, api.Chains{}, api.ErrUnit},
		{scaled(crowded(example(), 60), 12700), inch, scaled(crowded(example(), 60), 12700), api.OK}, {scaled(crowded(example(), 60), 1270), mm, api.Chains{}, api.ErrFull},
		{example(), mm, api.Chains{}, api.ErrNone},
	} {
		if c, e := chain.Redraw(x.c, x.unit); fmt.Sprint(c) != fmt.Sprint(x.want) || e != x.e {
			t.Error(i, c, e)
		}
	}
}

// P6.6, P6.11, P6.13: chains that are drawn again, as the chapter says it; what was known to close still is, and nothing gets wider.
func TestRedraw(t *testing.T) {
	rnd := rand.New(rand.NewSource(74))
	none, same, closed := 0, 0, 0
	for range 3000 {
		c := scaled(someChains(rnd), []int{1270, 254, 100, 131, 317}[rnd.Intn(5)])
		unit := uint8(1 + rnd.Intn(2))
		cannot := false
		want, room := issuedAs(c, func(_ api.Spot, d api.Dim) api.Dim {
			again, e := size.Convert(d, unit)
			cannot = cannot || e != api.OK
			return again
		})
		got, e := chain.Redraw(c, unit)
		if cannot {
			none++
			if !isNothing(fmt.Sprint(got)) || e != api.ErrNone {
				t.Fatal(c, unit, got, e)
			}
			continue
		}
		if !room || fmt.Sprint(got) != fmt.Sprint(want) || e != api.OK {
			t.Fatal(c, unit, got, e, want)
		}
		if checkIssues(t, c, got); fmt.Sprint(got) == fmt.Sprint(c) {
			same++
		}
		if again, e := chain.Redraw(got, unit); fmt.Sprint(again) != fmt.Sprint(got) || e != api.OK {
			t.Fatal(c, unit, got, again, e)
		}
		closed += checkNarrower(t, c, got)
	}
	if min(none, same, closed) < 100 {
		t.Error("few of a kind:", none, same, closed)
	}
}

// checkNarrower checks that no loop reaches further than it did, that none is known to be otherwise, and returns how many close.
func checkNarrower(t *testing.T, was, now api.Chains) int {
	t.Helper()
	closed := 0
	for i := range was.Loops {
		before, e := chain.Reach(was, i)
		after, f := chain.Reach(now, i)
		known, g := chain.Closes(was, i)
		still, h := chain.Closes(now, i)
		if e != api.OK || f != api.OK || g != api.OK || h != api.OK || after.Lo < before.Lo || after.Hi > before.Hi || known != api.KnownOpen && still != known {
			t.Fatal(was, now, i, before, after, known, still)
		}
		shares, e := chain.Shares(was, i)
		fewer, f := chain.Shares(now, i)
		if e != api.OK || f != api.OK || slices.ContainsFunc(fewer, func(n int) bool { return n < 0 }) || len(fewer) != len(shares) {
			t.Fatal(was, now, i, shares, fewer)
		}
		for k, n := range fewer {
			if n > shares[k] {
				t.Fatal(was, now, i, shares, fewer)
			}
		}
		closed += int(known / api.KnownYes)
	}
	return closed
}

// P6.13: the letters of drawings that are no part of Of, nor needed for it, do not matter.
func TestOtherLetters(t *testing.T) {
	rnd := rand.New(rand.NewSource(75))
	others := 0
	for range 1000 {
		c := scaled(someChains(rnd), 1270)
		needed, e := sheet.Tree(c.Register, c.Letters, c.Of)
		if e != api.OK {
			t.Fatal(c, e)
		}
		other := clone(c)
		for i, d := range trial.DrawingsOf(api.Notes{Register: c.Register}) {
			if last, _ := sheet.Last(c.Register, d); !slices.ContainsFunc(needed, func(b api.Branch) bool { return b.Drawing == d }) {
				other.Letters[i] = 1 + rnd.Intn(last)
			}
		}
		if slices.Equal(other.Letters, c.Letters) {
			continue
		}
		others++
		a := arguments{loop: rnd.Intn(len(c.Loops)), spots: spotsOf(c), grade: 1270 * rnd.Intn(3), unit: api.UnitMm}
		for _, f := range functions() {
			text, e := f.Call(c, a)
			again, g := f.Call(other, a)
			if e != g || text != again && f.Name != "Tighten" && f.Name != "Redraw" {
				t.Fatal(c, other, f.Name, text, e, again, g)
			}
		}
		tight, e := chain.Tighten(c, a.spots, a.grade)
		again, f := chain.Tighten(other, a.spots, a.grade)
		if fmt.Sprint(tight.Register, tight.Loops) != fmt.Sprint(again.Register, again.Loops) || e != api.OK || f != api.OK {
			t.Fatal(c, other, tight, e, again, f)
		}
	}
	if others < 300 {
		t.Error("few have other letters:", others)
	}
}
