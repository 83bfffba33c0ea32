package chain_test

import (
	"fmt"
	"math/rand"
	"slices"
	"strconv"
	"strings"
	"testing"

	"blueline/api"
	"blueline/chain"
	"blueline/sheet"
	"blueline/trial"
)

// Most tests here are made of these.
var dim, part, standard, assembly = trial.Dim, trial.Part, trial.Standard, trial.Assembly

// links returns the links that words name: 4.0 is the size 0 of the drawing 4, -2.1 the size 1 of 2, back.
func links(words string) []api.Link {
	var l []api.Link
	for _, word := range strings.Fields(words) {
		name, isBack := strings.CutPrefix(word, "-")
		drawing, index, _ := strings.Cut(name, ".")
		d, e := strconv.Atoi(drawing)
		i, f := strconv.Atoi(index)
		if e != nil || f != nil {
			panic(word)
		}
		l = append(l, api.Link{Drawing: d, Dim: i, Back: isBack})
	}
	return l
}

// loop returns a loop of the links that words name, and its gap.
func loop(words string, lo, hi int) api.Loop {
	return api.Loop{Links: links(words), Gap: api.Span{Lo: lo, Hi: hi}}
}

// spots returns the spots that words name.
func spots(words string) []api.Spot {
	var l []api.Spot
	for _, x := range links(words) {
		l = append(l, api.Spot{Drawing: x.Drawing, Dim: x.Dim})
	}
	return l
}

// spotsText is the words that name spots.
func spotsText(l []api.Spot) string {
	var words []string
	for _, s := range l {
		words = append(words, strconv.Itoa(s.Drawing)+"."+strconv.Itoa(s.Dim))
	}
	return strings.Join(words, " ")
}

// example returns the chains of the chapter's examples.
func example() api.Chains {
	return api.Chains{
		Register: trial.Register(assembly(1, 1, 2, 2, 3, 1, 4, 1), part(2, 1, dim(100, 98, 103)), part(3, 1, dim(200, 199, 201)), standard(4, 1, dim(410, 405, 412))),
		Letters:  []int{1, 1, 1, 1}, Of: 1,
		Loops: []api.Loop{loop("4.0 -2.0 -2.0 -3.0", 0, 20)},
	}
}

// shop returns chains of an assembly with another one in it, whose drawings have several letters; 1 A is made of three 3, two 5 and a 6, and 1 B of a 3, and four 9.
func shop() api.Chains {
	return api.Chains{
		Register: trial.Register(
			assembly(1, 1, 2, 1, 3, 2, 6, 1), assembly(1, 2, 3, 1, 9, 4), assembly(2, 1, 3, 1, 5, 2),
			part(3, 1, dim(10, 8, 12), dim(5, 5, 5)), part(3, 2, dim(10, 9, 11), dim(9, 4, 8), dim(50, 40, 60)), part(3, 3, dim(10, 9, 10)),
			part(5, 1, dim(20, 18, 25)), standard(6, 1, dim(7, 6, 9)), standard(6, 2), part(9, 1, dim(3, 2, 4))),
		Letters: []int{1, 1, 2, 1, 1, 1}, Of: 1,
		Loops: []api.Loop{
			loop("5.0 5.0 -3.0 -3.2", -40, 10), loop("3.1 3.1 -6.0", 0, 10), loop("-3.1 -3.0 -3.1", -30, -10), loop("6.0", 6, 9), loop("5.0 -6.0", 20, 30),
		},
	}
}

// changed returns the chains of the shop with a change.
func changed(change func(c *api.Chains)) api.Chains {
	c := shop()
	change(&c)
	return c
}

// alone returns chains of parts with a piece each, from 2 on, all sizes of which are as told; their loops have so many links, each of another size, until there is none left.
func alone(parts, sizes, length int, d api.Dim) api.Chains {
	c := api.Chains{Letters: []int{1}, Of: 1}
	top := assembly(1, 1)
	var all []api.Link
	for i := range parts {
		x := part(2+i, 1)
		for k := range sizes {
			x.Dims = append(x.Dims, d)
			all = append(all, api.Link{Drawing: x.Drawing, Dim: k})
		}
		top.Items = append(top.Items, api.Item{Drawing: x.Drawing, Count: sizes})
		c.Register.Issues, c.Letters = append(c.Register.Issues, x), append(c.Letters, 1)
	}
	c.Register.Issues = slices.Insert(c.Register.Issues, 0, top)
	for l := range slices.Chunk(all, length) {
		c.Loops = append(c.Loops, api.Loop{Links: l, Gap: api.Span{Lo: -api.MaxGap, Hi: api.MaxGap}})
	}
	return c
}

// lettered returns chains of a part of which an issue with an index is taken, the sizes of all of which are as told.
func lettered(issues, letter int, d api.Dim) api.Chains {
	c := api.Chains{Letters: []int{letter}, Of: 7, Loops: []api.Loop{loop("7.0", 0, 9)}}
	for i := range issues {
		c.Register.Issues = append(c.Register.Issues, part(7, 1+i, d))
	}
	return c
}

// crowded returns chains with so many issues, of which those that are more are of parts of nothing.
func crowded(c api.Chains, issues int) api.Chains {
	for i := range issues - len(c.Register.Issues) {
		c.Register.Issues = append(c.Register.Issues, part(100+i/8, 1+i%8))
		if i%8 == 0 {
			c.Letters = append(c.Letters, 1+i%3)
		}
	}
	return c
}

// scaled returns chains with all sizes and gaps so many times as great.
func scaled(c api.Chains, times int) api.Chains {
	c = clone(c)
	for _, x := range c.Register.Issues {
		for i, d := range x.Dims {
			x.Dims[i] = dim(d.Nominal*times, d.Lower*times, d.Upper*times)
		}
	}
	for i, l := range c.Loops {
		c.Loops[i].Gap = api.Span{Lo: l.Gap.Lo * times, Hi: l.Gap.Hi * times}
	}
	return c
}

// clone returns chains in memory of their own.
func clone(c api.Chains) api.Chains {
	c = api.Chains{Register: trial.Clone(c.Register), Letters: slices.Clone(c.Letters), Of: c.Of, Loops: slices.Clone(c.Loops)}
	for i, l := range c.Loops {
		c.Loops[i].Links = slices.Clone(l.Links)
	}
	return c
}

// valid returns chains of which something is at its end.
func valid() map[string]api.Chains {
	all := dim(0, 0, api.MaxSize)
	six := alone(api.MaxItems, api.MaxSizes, 6, dim(5, 4, 6))
	back := alone(api.MaxItems, 1, api.MaxLinks, all)
	for i := range back.Loops[0].Links {
		back.Loops[0].Links[i].Back = true
	}
	deep := api.Chains{Register: trial.Register(assembly(1, 1, 2, 20), assembly(2, 1, 3, 20), assembly(3, 1, 4, 20), assembly(4, 1, 5, 20), assembly(5, 1, 9999, 20), part(9999, 1, all)), Letters: []int{1, 1, 1, 1, 1, 1}, Of: 1}
	for range api.MaxLoops {
		deep.Loops = append(deep.Loops, loop("9999.0 -9999.0 9999.0 -9999.0 9999.0 -9999.0 9999.0 -9999.0", 0, 0))
	}
	return map[string]api.Chains{
		"the examples": example(), "the shop": shop(), "six loops": six, "back": back, "deep": deep, "60 issues": crowded(example(), api.MaxIssues), "a full shop": crowded(shop(), api.MaxIssues),
		"all sizes": alone(api.MaxItems, 1, api.MaxLinks, all),
		"12 spots":  alone(3, api.MaxSizes, 4, dim(5, 4, 6)),
		"13 spots": changed(func(c *api.Chains) {
			*c = alone(4, api.MaxSizes, 6, dim(5, 4, 6))
			c.Loops[2].Links = c.Loops[2].Links[:1]
		}),
		"a part":     lettered(api.MaxLetter, 3, dim(5, 4, 6)),
		"a standard": {Register: trial.Register(standard(1, 1, dim(5, 4, 6))), Letters: []int{1}, Of: 1, Loops: []api.Loop{loop("-1.0", -6, -4)}},
		"least gap":  changed(func(c *api.Chains) { c.Loops[1].Gap = api.Span{Lo: -api.MaxGap, Hi: -api.MaxGap} }),
		"most gap":   changed(func(c *api.Chains) { c.Loops[1].Gap = api.Span{Lo: api.MaxGap, Hi: api.MaxGap} }),
		"of 2":       changed(func(c *api.Chains) { c.Of, c.Loops = 2, []api.Loop{loop("3.2 5.0 5.0", 0, 1)} }),
		"of 1 B":     changed(func(c *api.Chains) { c.Letters[0], c.Loops = 2, []api.Loop{loop("9.0 9.0 -9.0 9.0 3.0", 0, 1)} }),
		"of 3":       changed(func(c *api.Chains) { c.Of, c.Loops = 3, []api.Loop{loop("3.2", 0, 100), loop("-3.1", 0, 1)} }),
		"once each":  changed(func(c *api.Chains) { c.Loops = []api.Loop{loop("3.0 3.1 3.2", 0, 1), loop("3.0 -3.0 3.0", 0, 1)} }),
		"other 3":    changed(func(c *api.Chains) { c.Letters[2], c.Loops = 3, []api.Loop{loop("3.0 5.0", 27, 35)} }),
		"other 6":    changed(func(c *api.Chains) { c.Letters[4], c.Loops = 2, c.Loops[:1] }),
		"without 9": changed(func(c *api.Chains) {
			c.Register.Issues = c.Register.Issues[:9]
			c.Register.Issues[1].Items = c.Register.Issues[1].Items[:1]
			c.Letters = c.Letters[:5]
		}),
		"of millions": scaled(shop(), 10000000),
	}
}

// letterOf returns the letter that a drawing has by Letters.
func letterOf(c api.Chains, drawing int) int {
	return c.Letters[slices.Index(trial.DrawingsOf(api.Notes{Register: c.Register}), drawing)]
}

// issueOf returns the issue that a drawing has by Letters.
func issueOf(c api.Chains, drawing int) api.Issue {
	letter := letterOf(c, drawing)
	return c.Register.Issues[slices.IndexFunc(c.Register.Issues, func(x api.Issue) bool { return x.Drawing == drawing && x.Letter == letter })]
}

// partsOf returns the parts of Of.
func partsOf(c api.Chains) []api.Item {
	l, e := sheet.Explode(c.Register, c.Letters, c.Of)
	if e != api.OK {
		panic(e)
	}
	return l
}

// sizesOf returns all sizes of one that are at most so far from its middle, in increasing order.
func sizesOf(d api.Dim, grade int) []int {
	far := func(a, b int) int { return max(a-b, b-a) }
	middle := d.Lower
	for n := d.Lower; n <= d.Upper; n++ {
		if far(n, d.Nominal) < far(middle, d.Nominal) {
			middle = n
		}
	}
	var l []int
	for n := d.Lower; n <= d.Upper; n++ {
		if far(n, middle) <= grade {
			l = append(l, n)
		}
	}
	return l
}

// grades tells to which grade a size is tightened.
type grades func(s api.Spot) int

// loose tightens nothing.
func loose(api.Spot) int { return api.MaxSize }

// linkSizes returns all sizes of a link.
func linkSizes(c api.Chains, x api.Link, to grades) []int {
	issue := issueOf(c, x.Drawing)
	if issue.Kind == api.KindStandard {
		to = loose
	}
	return sizesOf(issue.Dims[x.Dim], to(api.Spot{Drawing: x.Drawing, Dim: x.Dim}))
}

// sumsOf returns all sums of a loop, in increasing order.
func sumsOf(c api.Chains, l api.Loop, to grades) []int {
	sums := []int{0}
	for _, x := range l.Links {
		var next []int
		for _, s := range linkSizes(c, x, to) {
			for _, n := range sums {
				next = append(next, plus(n, x, s))
			}
		}
		slices.Sort(next)
		sums = slices.Compact(next)
	}
	return sums
}

// plus returns a number with the size of a link added, or subtracted.
func plus(n int, x api.Link, size int) int {
	if x.Back {
		return n - size
	}
	return n + size
}

// sumOf returns the sum of a loop with some sizes.
func sumOf(l api.Loop, sizes []int) int {
	n := 0
	for i, x := range l.Links {
		n = plus(n, x, sizes[i])
	}
	return n
}

// isIn reports whether a number is within a gap.
func isIn(gap api.Span, n int) bool { return gap.Lo <= n && n <= gap.Hi }

// knownOf tells whether a loop is known to close, by all of its sums.
func knownOf(c api.Chains, l api.Loop, to grades) uint8 {
	in, out := false, false
	for _, n := range sumsOf(c, l, to) {
		in, out = in || isIn(l.Gap, n), out || !isIn(l.Gap, n)
	}
	switch {
	case !out:
		return api.KnownYes
	case in:
		return api.KnownOpen
	}
	return api.KnownNo
}

// wrongOf returns all loops that are not known to close.
func wrongOf(c api.Chains, to grades) []int {
	var wrong []int
	for i, l := range c.Loops {
		if knownOf(c, l, to) != api.KnownYes {
			wrong = append(wrong, i)
		}
	}
	return wrong
}

// someDim returns a small size; the nominal number may be outside of it.
func someDim(rnd *rand.Rand) api.Dim {
	lower, width := rnd.Intn(12), rnd.Intn(5)
	return dim(max(0, lower-3+rnd.Intn(width+7)), lower, lower+width)
}

// someAssembly returns an issue of some of the drawings, of each up to three.
func someAssembly(rnd *rand.Rand, drawing, letter int, of ...int) api.Issue {
	x := assembly(drawing, letter)
	for _, i := range rnd.Perm(len(of))[:1+rnd.Intn(len(of))] {
		x.Items = append(x.Items, api.Item{Drawing: of[i], Count: 1 + rnd.Intn(3)})
	}
	slices.SortFunc(x.Items, func(a, b api.Item) int { return a.Drawing - b.Drawing })
	return x
}

// someRegister returns a register of the assemblies 1 and 2, and of some parts.
func someRegister(rnd *rand.Rand) api.Register {
	var r api.Register
	for i := range 1 + rnd.Intn(3) {
		r.Issues = append(r.Issues, someAssembly(rnd, 1, 1+i, 2, 3, 4, 5, 6))
	}
	for i := range 1 + rnd.Intn(2) {
		r.Issues = append(r.Issues, someAssembly(rnd, 2, 1+i, 3, 5, 7))
	}
	for d := 3; d <= 8; d++ {
		kind := uint8(api.KindPart)
		if rnd.Intn(3) == 0 {
			kind = api.KindStandard
		}
		for i := range 1 + rnd.Intn(3) {
			x := api.Issue{Drawing: d, Letter: 1 + i, Kind: kind}
			for range rnd.Intn(1 + rnd.Intn(api.MaxSizes+1)) {
				x.Dims = append(x.Dims, someDim(rnd))
			}
			r.Issues = append(r.Issues, x)
		}
	}
	return r
}

// someLoop returns a loop of chains, with a gap near the sum of its middles, mostly; none if no part has a size.
func someLoop(rnd *rand.Rand, c api.Chains) (api.Loop, bool) {
	var pieces []int
	for _, it := range partsOf(c) {
		if len(issueOf(c, it.Drawing).Dims) > 0 {
			pieces = append(pieces, slices.Repeat([]int{it.Drawing}, min(it.Count, api.MaxLinks))...)
		}
	}
	var l api.Loop
	for _, i := range rnd.Perm(len(pieces))[:min(len(pieces), 1+rnd.Intn(5))] {
		x := api.Link{Drawing: pieces[i], Back: rnd.Intn(2) == 0}
		x.Dim = rnd.Intn(len(issueOf(c, x.Drawing).Dims))
		l.Links = append(l.Links, x)
	}
	middles := sumsOf(c, l, func(api.Spot) int { return 0 })
	wide := []int{4, 10, 10, 30}[rnd.Intn(4)]
	far := []int{0, 0, 0, 0, 30, -30}[rnd.Intn(6)]
	l.Gap = api.Span{Lo: middles[0] + far - rnd.Intn(wide), Hi: middles[len(middles)-1] + far + rnd.Intn(wide)}
	return l, len(l.Links) > 0
}

// someChains returns any valid chains of small sizes, of which some loops close, and some do not.
func someChains(rnd *rand.Rand) api.Chains {
	for {
		c := api.Chains{Register: someRegister(rnd), Of: []int{1, 1, 1, 1, 2, 3}[rnd.Intn(6)]}
		for _, d := range trial.DrawingsOf(api.Notes{Register: c.Register}) {
			last, _ := sheet.Last(c.Register, d)
			c.Letters = append(c.Letters, 1+rnd.Intn(last))
		}
		for range 1 + rnd.Intn([]int{1, 3, api.MaxLoops}[rnd.Intn(3)]) {
			if l, has := someLoop(rnd, c); has {
				c.Loops = append(c.Loops, l)
			}
		}
		if len(c.Loops) > 0 {
			return c
		}
	}
}

// Chains that are made for tests are valid.
func TestChains(t *testing.T) {
	rnd := rand.New(rand.NewSource(60))
	for range 1000 {
		c := someChains(rnd)
		if chain.Check(c) != api.OK || chain.Check(clone(c)) != api.OK || fmt.Sprint(clone(c)) != fmt.Sprint(c) {
			t.Fatal(c)
		}
	}
}
