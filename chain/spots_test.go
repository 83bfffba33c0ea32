package chain_test

import (
	"cmp"
	"math/rand"
	"slices"
	"testing"

	"blueline/api"
	"blueline/chain"
)

// P6.3: the examples; each spot once, those of standard parts not, nor sizes that no link has.
func TestSpotsExamples(t *testing.T) {
	for i, x := range []struct {
		c    api.Chains
		want string
	}{
		{example(), "2.0 3.0"}, {shop(), "3.0 3.1 3.2 5.0"}, {valid()["a standard"], ""}, {valid()["deep"], "9999.0"}, {valid()["once each"], "3.0 3.1 3.2"}, {valid()["of 3"], "3.1 3.2"}, {valid()["of 1 B"], "3.0 9.0"}, {valid()["of 2"], "3.2 5.0"},
		{changed(func(c *api.Chains) { c.Loops = c.Loops[3:4] }), ""}, {changed(func(c *api.Chains) { c.Loops = c.Loops[2:5] }), "3.0 3.1 5.0"},
		{changed(func(c *api.Chains) {
			c.Loops = []api.Loop{loop("5.0", 0, 1), loop("6.0", 0, 1), loop("-3.2", 0, 1), loop("3.0", 0, 1)}
		}), "3.0 3.2 5.0"},
		{valid()["12 spots"], "2.0 2.1 2.2 2.3 3.0 3.1 3.2 3.3 4.0 4.1 4.2 4.3"},
	} {
		if l, e := chain.Spots(x.c); spotsText(l) != x.want || e != api.OK {
			t.Error(i, spotsText(l), e)
		}
	}
}

// spotsOf returns the spots, as the chapter says it.
func spotsOf(c api.Chains) []api.Spot {
	var all []api.Spot
	for _, l := range c.Loops {
		for _, x := range l.Links {
			if issueOf(c, x.Drawing).Kind != api.KindStandard {
				all = append(all, api.Spot{Drawing: x.Drawing, Dim: x.Dim})
			}
		}
	}
	slices.SortFunc(all, func(a, b api.Spot) int { return cmp.Or(a.Drawing-b.Drawing, a.Dim-b.Dim) })
	return slices.Compact(all)
}

// to tightens to a grade, whatever the spot is.
func to(grade int) grades {
	return func(api.Spot) int { return grade }
}

// widest is a grade to which sizes that are made for tests may be tightened so that they stay as they are.
const widest = 20

// gradeOf returns the greatest grade with which all loops are known to close, found one by one.
func gradeOf(c api.Chains) (int, api.Errno) {
	best, e := 0, api.ErrNone
	for grade := range widest + 1 {
		if len(wrongOf(c, to(grade))) == 0 {
			best, e = grade, api.OK
		}
	}
	if best == widest {
		best = api.MaxSize
	}
	return best, e
}

// gapped returns the chains of the examples with another gap.
func gapped(lo, hi int) api.Chains {
	c := example()
	c.Loops[0].Gap = api.Span{Lo: lo, Hi: hi}
	return c
}

// P6.3: the examples, and grades at their ends.
func TestGradeExamples(t *testing.T) {
	standards := example()
	for i := range standards.Letters[1:] {
		standards.Register.Issues[1+i].Kind = api.KindStandard
	}
	wide := func(gap int) api.Chains {
		c := alone(1, 1, 1, dim(0, 0, api.MaxSize))
		c.Loops[0].Gap = api.Span{Hi: gap}
		return c
	}
	for i, x := range []struct {
		c     api.Chains
		grade int
		e     api.Errno
		loop  int
		sizes []int
		f     api.Errno
	}{
		{example(), 2, api.OK, 0, []int{405, 103, 103, 201}, api.OK},
		{gapped(-9, 16), 1, api.OK, 0, []int{412, 98, 98, 199}, api.OK},
		{gapped(2, 15), 1, api.OK, 0, []int{412, 98, 98, 199}, api.OK},
		{gapped(5, 12), 0, api.OK, 0, []int{412, 99, 99, 199}, api.OK},
		{gapped(5, 15), 0, api.OK, 0, []int{405, 101, 101, 201}, api.OK},
		{gapped(6, 20), 0, api.ErrNone, 0, nil, api.ErrNone},
		{gapped(-2, 17), api.MaxSize, api.OK, 0, nil, api.ErrNone},
		{gapped(-1, 17), 2, api.OK, 0, []int{405, 103, 103, 201}, api.OK},
		{standards, 0, api.ErrNone, 0, nil, api.ErrNone},
		{shop(), 0, api.ErrNone, 0, nil, api.ErrNone},
		{changed(func(c *api.Chains) { c.Loops = c.Loops[:4] }), 3, api.OK, 1, []int{4, 4, 9}, api.OK},
		{changed(func(c *api.Chains) { c.Loops, c.Loops[0].Gap.Lo = c.Loops[:4], -27 }), 2, api.OK, 0, []int{18, 18, 11, 53}, api.OK},
		{valid()["deep"], 0, api.OK, 0, []int{1, 0, 1, 0, 1, 0, 1, 0}, api.OK},
		{valid()["all sizes"], api.MaxSize, api.OK, 0, nil, api.ErrNone},
		{wide(api.MaxSize), api.MaxSize, api.OK, 0, nil, api.ErrNone}, {wide(api.MaxSize - 1), api.MaxSize - 1, api.OK, 0, []int{api.MaxSize}, api.OK}, {wide(api.MaxSize - 2), api.MaxSize - 2, api.OK, 0, []int{api.MaxSize - 1}, api.OK}, {wide(0), 0, api.OK, 0, []int{1}, api.OK}, {wide(1), 1, api.OK, 0, []int{2}, api.OK}, {wide(536870912), 536870912, api.OK, 0, []int{536870913}, api.OK},
	} {
		grade, e := chain.Grade(x.c)
		loop, sizes, f := chain.Proof(x.c)
		if grade != x.grade || e != x.e || loop != x.loop || !slices.Equal(sizes, x.sizes) || f != x.f {
			t.Error(i, grade, e, loop, sizes, f)
		}
	}
}

// proofOf returns a loop, and sizes, as the chapter says it, if a grade is not enough.
func proofOf(c api.Chains, grade int) (int, []int) {
	i := wrongOf(c, to(grade))[0]
	l := c.Loops[i]
	sums := sumsOf(c, l, to(grade))
	end := sums[0]
	if sums[len(sums)-1] > l.Gap.Hi {
		end = sums[len(sums)-1]
	}
	var sizes []int
	for _, x := range l.Links {
		all := linkSizes(c, x, to(grade))
		if (end == sums[0]) == x.Back {
			slices.Reverse(all)
		}
		sizes = append(sizes, all[0])
	}
	if sumOf(l, sizes) != end {
		panic("not the worst sizes")
	}
	return i, sizes
}

// P6.3, P6.9: spots, grades and proofs, as they are found one by one.
func TestGrade(t *testing.T) {
	rnd := rand.New(rand.NewSource(67))
	none, some, all, later := 0, 0, 0, 0
	for range 3000 {
		c := someChains(rnd)
		if l, e := chain.Spots(c); !slices.Equal(l, spotsOf(c)) || e != api.OK {
			t.Fatal(c, l, e)
		}
		want, f := gradeOf(c)
		grade, e := chain.Grade(c)
		if grade != want || e != f {
			t.Fatal(c, grade, e, want, f)
		}
		loop, sizes, g := chain.Proof(c)
		if e != api.OK || grade == api.MaxSize {
			if loop != 0 || len(sizes) > 0 || g != api.ErrNone {
				t.Fatal(c, loop, sizes, g)
			}
			if e != api.OK {
				none++
			} else {
				all++
			}
			continue
		}
		i, worst := proofOf(c, grade+1)
		if loop != i || !slices.Equal(sizes, worst) || g != api.OK {
			t.Fatal(c, grade, loop, sizes, g, i, worst)
		}
		some++
		later += min(loop, 1)
	}
	if min(none, some, all, later) < 100 {
		t.Error("few of a kind:", none, some, all, later)
	}
}

// P6.9: chains that are tightened to the grade close; tightened to 1 more they do not, with the sizes of the proof.
func TestGradeCloses(t *testing.T) {
	rnd := rand.New(rand.NewSource(68))
	for range 2000 {
		c := someChains(rnd)
		grade, e := chain.Grade(c)
		if e != api.OK {
			continue
		}
		tight, f := chain.Tighten(c, spotsOf(c), grade)
		wrong, g := chain.Wrong(tight)
		if f != api.OK || g != api.OK || len(wrong) > 0 {
			t.Fatal(c, grade, f, g, wrong)
		}
		if again, e := chain.Grade(tight); again != api.MaxSize || e != api.OK {
			t.Fatal(c, grade, tight, again, e)
		}
		loop, sizes, e := chain.Proof(c)
		if e != api.OK {
			continue
		}
		looser, f := chain.Tighten(c, spotsOf(c), grade+1)
		wrong, g = chain.Wrong(looser)
		l := looser.Loops[loop]
		if f != api.OK || g != api.OK || len(wrong) == 0 || wrong[0] != loop || isIn(l.Gap, sumOf(l, sizes)) {
			t.Fatal(c, grade, f, g, wrong, loop, sizes)
		}
		for i, x := range l.Links {
			if !slices.Contains(linkSizes(looser, x, loose), sizes[i]) {
				t.Fatal(c, grade, looser, loop, sizes)
			}
		}
	}
}

// P6.4: the examples; of lists that are as long the first one.
func TestFewestExamples(t *testing.T) {
	pairs := func(parts int, words ...string) api.Chains {
		c := alone(parts, 1, 1, dim(5, 4, 6))
		for i := range c.Register.Issues[0].Items {
			c.Register.Issues[0].Items[i].Count = api.MaxCount
		}
		c.Loops = nil
		for _, x := range words {
			c.Loops = append(c.Loops, loop(x, -1, 1))
		}
		return c
	}
	exact := alone(3, api.MaxSizes, api.MaxLinks, dim(5, 4, 6))
	exact.Loops[0].Gap, exact.Loops[1].Gap = api.Span{Lo: 40, Hi: 40}, api.Span{Lo: 20, Hi: 20}
	more := alone(4, api.MaxSizes, 4, dim(5, 4, 6))
	more.Loops[3].Links = more.Loops[3].Links[:1]
	for i, x := range []struct {
		c    api.Chains
		want string
		e    api.Errno
	}{
		{example(), "2.0", api.OK},
		{shop(), "", api.ErrNone},
		{changed(func(c *api.Chains) { c.Loops = c.Loops[:4] }), "3.1", api.OK},
		{changed(func(c *api.Chains) { c.Loops = c.Loops[2:4] }), "", api.OK},
		{valid()["a standard"], "", api.OK},
		{changed(func(c *api.Chains) { c.Loops = c.Loops[3:4]; c.Loops[0].Gap.Hi = 8 }), "", api.ErrNone},
		{pairs(4, "2.0 -3.0"), "2.0", api.OK}, {pairs(4, "5.0 -4.0", "3.0 -4.0"), "4.0", api.OK}, {pairs(4, "5.0 -2.0", "3.0 -4.0"), "2.0 3.0", api.OK},
		{pairs(4, "2.0 -3.0", "3.0 -4.0", "4.0 -2.0"), "2.0 3.0", api.OK}, {pairs(4, "2.0 -5.0", "3.0 -5.0", "4.0 -3.0"), "2.0 3.0", api.OK}, {pairs(4, "2.0 -5.0", "3.0 -5.0", "4.0 -5.0", "4.0 -3.0"), "3.0 5.0", api.OK},
		{pairs(5, "6.0 -2.0", "6.0 -3.0", "6.0 -4.0", "5.0 -4.0"), "4.0 6.0", api.OK}, {pairs(4, "2.0 -3.0", "4.0 -5.0", "2.0 -4.0"), "2.0 4.0", api.OK},
		{pairs(4, "5.0 -5.0"), "5.0", api.OK}, {pairs(4, "5.0 -4.0 3.0 -2.0"), "2.0 3.0 4.0", api.OK}, {pairs(2, "3.0"), "", api.ErrNone},
		{exact, "2.0 2.1 2.2 2.3 3.0 3.1 3.2 3.3 4.0 4.1 4.2 4.3", api.OK},
		{valid()["12 spots"], "", api.OK}, {valid()["13 spots"], "", api.ErrMany}, {more, "", api.ErrMany}, {valid()["six loops"], "", api.ErrMany},
		{changed(func(c *api.Chains) { *c = clone(more); c.Loops[0].Gap = api.Span{Lo: 99, Hi: 99} }), "", api.ErrMany},
		{changed(func(c *api.Chains) { *c = clone(exact); c.Loops[0].Gap = api.Span{Lo: 41, Hi: 99} }), "", api.ErrNone},
	} {
		if l, e := chain.Fewest(x.c); spotsText(l) != x.want || e != x.e {
			t.Error(i, spotsText(l), e)
		}
	}
}

// exactly tightens some spots to the grade 0, and no other ones.
func exactly(l []api.Spot) grades {
	return func(s api.Spot) int {
		if slices.Contains(l, s) {
			return 0
		}
		return api.MaxSize
	}
}

// listOf returns the first list of so many of some spots, as told by a function, and whether there is one.
func listOf(all []api.Spot, count int, isOne func([]api.Spot) bool, chosen ...api.Spot) ([]api.Spot, bool) {
	if count == 0 {
		return chosen, isOne(chosen)
	}
	for i, s := range all {
		if l, found := listOf(all[i+1:], count-1, isOne, append(slices.Clone(chosen), s)...); found {
			return l, true
		}
	}
	return nil, false
}

// fewestOf returns the fewest spots, found list by list: first the shorter ones.
func fewestOf(c api.Chains) ([]api.Spot, api.Errno) {
	all := spotsOf(c)
	if len(all) > 12 {
		return nil, api.ErrMany
	}
	for count := range len(all) + 1 {
		if l, found := listOf(all, count, func(l []api.Spot) bool { return len(wrongOf(c, exactly(l))) == 0 }); found {
			return l, api.OK
		}
	}
	return nil, api.ErrNone
}

// P6.4, P6.10: the fewest spots, as they are found list by list.
func TestFewest(t *testing.T) {
	rnd := rand.New(rand.NewSource(69))
	lengths := map[int]int{}
	for range 4000 {
		c := someChains(rnd)
		if len(spotsOf(c)) > 7 {
			continue // Too many to go through all lists so slowly.
		}
		want, f := fewestOf(c)
		l, e := chain.Fewest(c)
		if !slices.Equal(l, want) || e != f {
			t.Fatal(c, l, e, want, f)
		}
		if e == api.OK {
			lengths[len(l)]++
		} else {
			lengths[-1]++
		}
	}
	if min(lengths[-1], lengths[0], lengths[1], lengths[2]) < 50 || lengths[3] < 10 {
		t.Error("few of a kind:", lengths)
	}
}

// P6.10: with the fewest spots all close; more spots, or a lesser grade, open nothing.
func TestMoreSpotsOpenNothing(t *testing.T) {
	rnd := rand.New(rand.NewSource(70))
	for range 2000 {
		c := someChains(rnd)
		all := spotsOf(c)
		if l, e := chain.Fewest(c); e == api.OK {
			checkStillClosed(t, c, l, 0, nil)
		}
		few := slices.DeleteFunc(slices.Clone(all), func(api.Spot) bool { return rnd.Intn(2) == 0 })
		more := slices.DeleteFunc(slices.Clone(all), func(s api.Spot) bool { return !slices.Contains(few, s) && rnd.Intn(2) == 0 })
		grade := rnd.Intn(6)
		tight, e := chain.Tighten(c, few, grade)
		wrong, f := chain.Wrong(tight)
		before, g := chain.Wrong(c)
		if e != api.OK || f != api.OK || g != api.OK || !slices.Equal(wrong, wrongOf(c, func(s api.Spot) int { return []int{api.MaxSize, grade}[min(1, slices.Index(few, s)+1)] })) {
			t.Fatal(c, few, grade, e, f, g, wrong)
		}
		checkStillClosed(t, c, few, grade, before)
		checkStillClosed(t, c, more, grade, wrong)
		checkStillClosed(t, c, few, rnd.Intn(grade+1), wrong)
	}
}

// checkStillClosed checks that all loops but some are known to close when spots are tightened to a grade.
func checkStillClosed(t *testing.T, c api.Chains, l []api.Spot, grade int, but []int) {
	t.Helper()
	tight, e := chain.Tighten(c, l, grade)
	wrong, f := chain.Wrong(tight)
	if e != api.OK || f != api.OK || slices.ContainsFunc(wrong, func(i int) bool { return !slices.Contains(but, i) }) {
		t.Fatal(c, l, grade, e, f, wrong, but)
	}
}

// P6.4: twelve spots are gone through, whichever have to be exact.
func TestTwelveSpots(t *testing.T) {
	rnd := rand.New(rand.NewSource(71))
	for range 20 {
		c := alone(3, api.MaxSizes, 4, dim(5, 4, 6))
		for i := range c.Loops {
			c.Loops[i].Gap = api.Span{Lo: 20 - rnd.Intn(5), Hi: 20 + rnd.Intn(5)}
		}
		var want []api.Spot
		for _, l := range c.Loops { // The first ones of each loop: so many that as many numbers as it may be away are left.
			for _, x := range l.Links[:4-min(20-l.Gap.Lo, l.Gap.Hi-20)] {
				want = append(want, api.Spot{Drawing: x.Drawing, Dim: x.Dim})
			}
		}
		if l, e := chain.Fewest(c); !slices.Equal(l, want) || e != api.OK {
			t.Fatal(c.Loops, spotsText(l), e, spotsText(want))
		}
	}
}

// P6.3: standard parts are never tightened.
func TestStandardPartsStay(t *testing.T) {
	rnd := rand.New(rand.NewSource(72))
	for range 500 {
		c := someChains(rnd)
		for i, x := range c.Register.Issues {
			if x.Kind == api.KindPart {
				c.Register.Issues[i].Kind = api.KindStandard
			}
		}
		l, e := chain.Spots(c)
		grade, f := chain.Grade(c)
		few, g := chain.Fewest(c)
		if len(l) > 0 || e != api.OK {
			t.Fatal(c, l, e)
		}
		wantGrade, want := api.MaxSize, api.OK
		if len(wrongOf(c, loose)) > 0 {
			wantGrade, want = 0, api.ErrNone
		}
		if grade != wantGrade || f != want || len(few) > 0 || g != want {
			t.Fatal(c, grade, f, few, g)
		}
	}
}
