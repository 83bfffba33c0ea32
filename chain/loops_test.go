package chain_test

import (
	"fmt"
	"math/rand"
	"slices"
	"testing"

	"blueline/api"
	"blueline/chain"
	"blueline/size"
	"blueline/trial"
)

// P6.1, P6.2: the examples, and loops of the shop.
func TestLoopsExamples(t *testing.T) {
	back := alone(api.MaxItems, 1, api.MaxLinks, dim(0, 0, api.MaxSize))
	for i := range back.Loops[0].Links {
		back.Loops[0].Links[i].Back = true
	}
	most := slices.Repeat([]int{api.MaxSize}, 8)
	for i, x := range []struct {
		c                   api.Chains
		loop                int
		reach               api.Span
		known               uint8
		least, most, shares []int
	}{
		{example(), 0, api.Span{Lo: -2, Hi: 17}, api.KnownOpen, []int{405, 103, 103, 201}, []int{412, 98, 98, 199}, []int{7, 5, 5, 2}},
		{shop(), 0, api.Span{Lo: -35, Hi: 1}, api.KnownYes, []int{18, 18, 11, 60}, []int{25, 25, 9, 40}, []int{7, 7, 2, 20}},
		{shop(), 1, api.Span{Lo: -1, Hi: 10}, api.KnownOpen, []int{4, 4, 9}, []int{8, 8, 6}, []int{4, 4, 3}},
		{shop(), 2, api.Span{Lo: -27, Hi: -17}, api.KnownYes, []int{8, 11, 8}, []int{4, 9, 4}, []int{4, 2, 4}},
		{shop(), 3, api.Span{Lo: 6, Hi: 9}, api.KnownYes, []int{6}, []int{9}, []int{3}},
		{shop(), 4, api.Span{Lo: 9, Hi: 19}, api.KnownNo, []int{18, 9}, []int{25, 6}, []int{7, 3}},
		{alone(api.MaxItems, 1, api.MaxLinks, dim(0, 0, api.MaxSize)), 0, api.Span{Lo: 0, Hi: api.MaxGap}, api.KnownYes, make([]int, 8), most, most},
		{back, 0, api.Span{Lo: -api.MaxGap, Hi: 0}, api.KnownYes, most, make([]int, 8), most},
		{valid()["other 3"], 0, api.Span{Lo: 27, Hi: 35}, api.KnownYes, []int{9, 18}, []int{10, 25}, []int{1, 7}},
		{valid()["a standard"], 0, api.Span{Lo: -6, Hi: -4}, api.KnownYes, []int{6}, []int{4}, []int{2}},
		{valid()["deep"], 5, api.Span{Lo: -api.MaxGap / 2, Hi: api.MaxGap / 2}, api.KnownOpen, slices.Repeat([]int{0, api.MaxSize}, 4), slices.Repeat([]int{api.MaxSize, 0}, 4), most},
	} {
		reach, e := chain.Reach(x.c, x.loop)
		known, f := chain.Closes(x.c, x.loop)
		if reach != x.reach || known != x.known || e != api.OK || f != api.OK {
			t.Error(i, reach, e, known, f)
		}
		least, e := chain.Worst(x.c, x.loop, false)
		most, f := chain.Worst(x.c, x.loop, true)
		shares, g := chain.Shares(x.c, x.loop)
		if !slices.Equal(least, x.least) || !slices.Equal(most, x.most) || !slices.Equal(shares, x.shares) || e != api.OK || f != api.OK || g != api.OK {
			t.Error(i, least, e, most, f, shares, g)
		}
	}
}

// P6.1: a loop is known to close, or not to, up to the very ends of its gap.
func TestClosesAtTheEnds(t *testing.T) {
	for lo := -5; lo <= 20; lo++ {
		for hi := lo; hi <= 20; hi++ {
			c := changed(func(c *api.Chains) { c.Loops[0] = loop("-6.0 3.1 3.1", lo, hi) }) // from -1 to 10
			want := uint8(api.KnownOpen)
			if lo <= -1 && hi >= 10 {
				want = api.KnownYes
			} else if lo > 10 || hi < -1 {
				want = api.KnownNo
			}
			if known, e := chain.Closes(c, 0); known != want || e != api.OK {
				t.Error(lo, hi, known, e)
			}
		}
	}
}

// P6.2: the examples.
func TestWrongExamples(t *testing.T) {
	for i, x := range []struct {
		c    api.Chains
		want []int
	}{
		{example(), []int{0}}, {shop(), []int{1, 4}}, {valid()["all sizes"], nil}, {valid()["deep"], []int{0, 1, 2, 3, 4, 5}}, {valid()["six loops"], nil},
		{changed(func(c *api.Chains) { c.Loops[0].Gap.Hi, c.Loops[3].Gap.Lo = 0, 7 }), []int{0, 1, 3, 4}},
		{changed(func(c *api.Chains) {
			c.Loops[1].Gap, c.Loops[4].Gap = api.Span{Lo: -1, Hi: 10}, api.Span{Lo: 9, Hi: 19}
		}), nil},
	} {
		if l, e := chain.Wrong(x.c); !slices.Equal(l, x.want) || e != api.OK {
			t.Error(i, l, e)
		}
	}
}

// checkLoop checks what is told of a loop by all sums that it has.
func checkLoop(t *testing.T, c api.Chains, i int) {
	t.Helper()
	l := c.Loops[i]
	sums := sumsOf(c, l, loose)
	ends := [2]int{sums[0], sums[len(sums)-1]}
	if reach, e := chain.Reach(c, i); reach != (api.Span{Lo: ends[0], Hi: ends[1]}) || e != api.OK {
		t.Fatal(c, i, reach, e, ends)
	}
	if known, e := chain.Closes(c, i); known != knownOf(c, l, loose) || e != api.OK {
		t.Fatal(c, i, known, e)
	}
	for k, high := range []bool{false, true} {
		sizes, e := chain.Worst(c, i, high)
		if len(sizes) != len(l.Links) || sumOf(l, sizes) != ends[k] || e != api.OK {
			t.Fatal(c, i, high, sizes, e)
		}
		for n, x := range l.Links {
			if !slices.Contains(linkSizes(c, x, loose), sizes[n]) {
				t.Fatal(c, i, high, sizes)
			}
		}
	}
	var want []int
	for _, x := range l.Links {
		sizes := linkSizes(c, x, loose)
		want = append(want, slices.Max(sizes)-slices.Min(sizes))
	}
	if shares, e := chain.Shares(c, i); !slices.Equal(shares, want) || e != api.OK {
		t.Fatal(c, i, shares, e)
	}
}

// P6.1, P6.2, P6.7: what is told of loops is what all of their sums are; these come about, with the sizes that are told.
func TestLoops(t *testing.T) {
	rnd := rand.New(rand.NewSource(62))
	seen := map[uint8]int{}
	for range 3000 {
		c := someChains(rnd)
		for i, l := range c.Loops {
			checkLoop(t, c, i)
			seen[knownOf(c, l, loose)]++
		}
		if l, e := chain.Wrong(c); !slices.Equal(l, wrongOf(c, loose)) || e != api.OK {
			t.Fatal(c, l, e)
		}
	}
	if len(seen) != 3 || min(seen[api.KnownNo], seen[api.KnownOpen], seen[api.KnownYes]) < 300 {
		t.Error("few of a kind:", seen)
	}
}

// P6.7, P6.8: pieces of any sizes close a loop that is known to; a loop that is not known to does not with the worst sizes, at either end.
func TestSomePieces(t *testing.T) {
	rnd := rand.New(rand.NewSource(63))
	for range 3000 {
		c := someChains(rnd)
		i := rnd.Intn(len(c.Loops))
		l := c.Loops[i]
		known, e := chain.Closes(c, i)
		low, f := chain.Worst(c, i, false)
		high, g := chain.Worst(c, i, true)
		if e != api.OK || f != api.OK || g != api.OK {
			t.Fatal(c, i, e, f, g)
		}
		if worst := isIn(l.Gap, sumOf(l, low)) && isIn(l.Gap, sumOf(l, high)); worst != (known == api.KnownYes) {
			t.Fatal(c, i, low, high, known)
		}
		var sizes []int
		for _, x := range l.Links {
			all := linkSizes(c, x, loose)
			sizes = append(sizes, all[rnd.Intn(len(all))])
		}
		if in := isIn(l.Gap, sumOf(l, sizes)); known == api.KnownYes && !in || known == api.KnownNo && in {
			t.Fatal(c, i, sizes, known)
		}
	}
}

// P6.12: a hole and a shaft are a loop of two links, with the clearance as its sum.
func TestHoleAndShaft(t *testing.T) {
	rnd := rand.New(rand.NewSource(64))
	for range 2000 {
		hole, shaft := someDim(rnd), someDim(rnd)
		want := api.Span{Lo: rnd.Intn(30) - 15}
		want.Hi = want.Lo + rnd.Intn(12)
		c := api.Chains{Register: trial.Register(assembly(1, 1, 2, 1, 3, 1), part(2, 1, hole), part(3, 1, shaft)), Letters: []int{1, 1, 1}, Of: 1, Loops: []api.Loop{{Links: links("2.0 -3.0"), Gap: want}}}
		clearance, _, e := size.Fit(hole, shaft)
		reach, f := chain.Reach(c, 0)
		if reach != clearance || e != api.OK || f != api.OK {
			t.Fatal(hole, shaft, clearance, e, reach, f)
		}
		room, e := size.Room(hole, want)
		inside := false
		if e == api.OK {
			inside, _ = size.Inside(shaft, room)
		}
		if known, e := chain.Closes(c, 0); (known == api.KnownYes) != inside || e != api.OK {
			t.Fatal(hole, shaft, want, room, known, e)
		}
	}
}

// P6.14: a wider gap closes no less, and a narrower one no more.
func TestWiderGaps(t *testing.T) {
	rnd := rand.New(rand.NewSource(65))
	more := 0
	for range 2000 {
		c := someChains(rnd)
		wider := clone(c)
		for i := range wider.Loops {
			wider.Loops[i].Gap.Lo -= rnd.Intn(4)
			wider.Loops[i].Gap.Hi += rnd.Intn(4)
		}
		for i := range c.Loops {
			known, e := chain.Closes(c, i)
			again, f := chain.Closes(wider, i)
			if again < known || e != api.OK || f != api.OK {
				t.Fatal(c, i, known, e, again, f)
			}
			more += int(again - known)
		}
		checkEased(t, c, wider)
	}
	if more < 100 {
		t.Error("few gaps matter:", more)
	}
}

// checkEased checks that chains in which less is asked for need no more exact spots, and no lesser grade.
func checkEased(t *testing.T, c, eased api.Chains) {
	t.Helper()
	grade, e := chain.Grade(c)
	wider, f := chain.Grade(eased)
	if wider < grade || f != api.OK && e == api.OK {
		t.Fatal(c, grade, e, eased, wider, f)
	}
	few, e := chain.Fewest(c)
	fewer, f := chain.Fewest(eased)
	if e == api.OK && (len(fewer) > len(few) || f != api.OK) {
		t.Fatal(c, few, e, eased, fewer, f)
	}
}

// P6.14: two loops one behind the other reach what both do together.
func TestLoopsTogether(t *testing.T) {
	rnd := rand.New(rand.NewSource(66))
	together := 0
	for range 5000 {
		c := someChains(rnd)
		a, b := c.Loops[0], c.Loops[len(c.Loops)-1]
		both := api.Loop{Links: slices.Concat(a.Links, b.Links), Gap: a.Gap}
		c.Loops = []api.Loop{a, b, both}
		if chain.Check(c) != api.OK {
			continue // There are too few pieces.
		}
		together++
		var reach [3]api.Span
		var shares, worst [3][]int
		for i := range reach {
			var e, f, g api.Errno
			reach[i], e = chain.Reach(c, i)
			shares[i], f = chain.Shares(c, i)
			worst[i], g = chain.Worst(c, i, true)
			if e != api.OK || f != api.OK || g != api.OK {
				t.Fatal(c, i, e, f, g)
			}
		}
		sum := api.Span{Lo: reach[0].Lo + reach[1].Lo, Hi: reach[0].Hi + reach[1].Hi}
		if reach[2] != sum || fmt.Sprint(slices.Concat(shares[0], shares[1]), slices.Concat(worst[0], worst[1])) != fmt.Sprint(shares[2], worst[2]) {
			t.Fatal(c, reach, shares, worst)
		}
	}
	if together < 500 {
		t.Error("few loops are one behind the other:", together)
	}
}
