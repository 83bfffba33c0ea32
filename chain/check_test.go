package chain_test

import (
	"fmt"
	"maps"
	"math/rand"
	"slices"
	"testing"

	"blueline/api"
	"blueline/chain"
	"blueline/sheet"
	"blueline/trial"
)

// linkedAs returns the chains of the shop with the links that words name in a loop.
func linkedAs(words string) api.Chains {
	return changed(func(c *api.Chains) { c.Loops[1].Links = links(words) })
}

// lettersAs returns the chains of the shop with other letters.
func lettersAs(letters ...int) api.Chains {
	return changed(func(c *api.Chains) { c.Letters = letters })
}

// gapAs returns the chains of the shop with a gap.
func gapAs(lo, hi int) api.Chains {
	return changed(func(c *api.Chains) { c.Loops[4].Gap = api.Span{Lo: lo, Hi: hi} })
}

// wrongChains returns chains that are not valid, with a register that is.
func wrongChains() map[string]api.Chains {
	m := map[string]api.Chains{
		"nothing but a register": {Register: shop().Register},
		"no loops":               changed(func(c *api.Chains) { c.Loops = nil }),
		"7 loops":                changed(func(c *api.Chains) { c.Loops = append(c.Loops, c.Loops[0], c.Loops[0]) }),
		"no links":               linkedAs(""),
		"an empty loop":          changed(func(c *api.Chains) { c.Loops = append(c.Loops, api.Loop{}) }),
		"9 links":                alone(3, api.MaxSizes, api.MaxLinks+1, dim(5, 4, 6)),
		"a gap turned":           gapAs(1, 0),
		"a gap turned below 0":   gapAs(-20, -21),
		"a gap too low":          gapAs(-api.MaxGap-1, 0),
		"a gap too high":         gapAs(0, api.MaxGap+1),
		"a gap far below":        gapAs(-api.MaxGap-1, -api.MaxGap-1),
		"a gap far above":        gapAs(api.MaxGap+1, api.MaxGap+1),
		"a gap all turned":       gapAs(api.MaxGap, -api.MaxGap),
		"no letters":             lettersAs(),
		"five letters":           lettersAs(1, 1, 2, 1, 1),
		"seven letters":          lettersAs(1, 1, 2, 1, 1, 1, 1),
		"a letter 0":             lettersAs(1, 1, 2, 1, 1, 0),
		"no such letter":         lettersAs(1, 1, 4, 1, 1, 1),
		"no letter of others":    lettersAs(1, 1, 2, 1, 1, 2),
		"a size of A":            lettersAs(1, 1, 1, 1, 1, 1),
		"a size of C":            lettersAs(1, 1, 3, 1, 1, 1),
		"without sizes":          lettersAs(1, 1, 2, 1, 2, 1),
		"parts of B":             lettersAs(2, 1, 2, 1, 1, 1),
		"of no drawing":          changed(func(c *api.Chains) { c.Of = 4 }),
		"of 2":                   changed(func(c *api.Chains) { c.Of = 2 }),
		"of a 3 alone":           changed(func(c *api.Chains) { c.Of, c.Loops = 3, []api.Loop{loop("3.0 3.1", 0, 9)} }),
		"of 9, with a 3":         changed(func(c *api.Chains) { c.Of, c.Loops = 9, []api.Loop{loop("3.0", 0, 9)} }),
		"an assembly":            linkedAs("2.0"),
		"the whole":              linkedAs("1.0"),
		"no drawing":             linkedAs("4.0"),
		"no part of it":          linkedAs("9.0"),
		"no such size":           linkedAs("5.1"),
		"a size before":          linkedAs("5.-1"),
		"a size too many":        linkedAs("3.3"),
		"last is wrong":          linkedAs("3.0 5.0 3.3"),
		"first is wrong":         linkedAs("6.1 3.0 5.0"),
		"four 3":                 linkedAs("3.0 3.1 3.2 3.0"),
		"four 3, there and back": linkedAs("3.0 -3.0 3.0 -3.0"),
		"three 5":                linkedAs("5.0 3.0 5.0 3.0 5.0"),
		"two 6":                  linkedAs("6.0 -6.0"),
		"the last loop":          changed(func(c *api.Chains) { c.Loops[4].Links = links("5.0 -6.0 6.0") }),
		"the first loop":         changed(func(c *api.Chains) { c.Loops[0].Links = links("6.0 -6.0") }),
		"a single loop":          changed(func(c *api.Chains) { c.Loops = []api.Loop{loop("6.0 -6.0", 0, 9)} }),
	}
	maps.Copy(m, farChains())
	return m
}

// farChains returns chains that are not valid, as one of their numbers is far away.
func farChains() map[string]api.Chains {
	m := map[string]api.Chains{}
	for _, far := range trial.Far() {
		m[fmt.Sprint("of ", far)] = changed(func(c *api.Chains) { c.Of = far })
		m[fmt.Sprint("a link with ", far)] = changed(func(c *api.Chains) { c.Loops[2].Links[1].Drawing = far })
		for i := range 6 {
			m[fmt.Sprint("letter ", far, " at ", i)] = changed(func(c *api.Chains) { c.Letters[i] = far })
		}
		if far != 0 {
			m[fmt.Sprint("size ", far)] = changed(func(c *api.Chains) { c.Loops[2].Links[1].Dim = far })
		}
		if far < -api.MaxGap || far > api.MaxGap {
			m[fmt.Sprint("from ", far)] = changed(func(c *api.Chains) { c.Loops[2].Gap.Lo = far })
			m[fmt.Sprint("to ", far)] = changed(func(c *api.Chains) { c.Loops[2].Gap.Hi = far })
			m[fmt.Sprint("just ", far)] = gapAs(far, far)
		}
	}
	return m
}

// wrongRegisters returns chains whose register is not valid, with loops that are, or are not.
func wrongRegisters() map[string]api.Chains {
	m := map[string]api.Chains{}
	for name, c := range map[string]api.Chains{"good": shop(), "none": {}, "no loops": wrongChains()["no loops"], "a gap": gapAs(1, 0)} {
		for kind, r := range map[string]api.Register{
			"nothing":  {},
			"a circle": trial.Register(assembly(1, 1, 2, 1), assembly(2, 1, 1, 1)),
			"turned":   trial.Register(part(2, 1), part(1, 1)),
			"a size":   trial.Register(part(1, 1, dim(5, 6, 4))),
		} {
			other := clone(c)
			other.Register = r
			m[kind+", "+name] = other
		}
	}
	return m
}

// P6.1: what is valid is OK, what is not ErrChains; the register's error comes first.
func TestCheck(t *testing.T) {
	seen := map[api.Errno]bool{}
	for name, c := range valid() {
		if e := chain.Check(c); e != api.OK {
			t.Error(name, e)
		}
	}
	for name, c := range wrongChains() {
		if e := chain.Check(c); e != api.ErrChains {
			t.Error(name, e)
		}
	}
	for name, c := range wrongRegisters() {
		e := chain.Check(c)
		if seen[e] = true; e == api.OK || e != sheet.Check(c.Register) {
			t.Error(name, e)
		}
	}
	if len(seen) != 2 {
		t.Error("not all errors of registers:", seen)
	}
}

// P6.1: links may be just as many of a drawing as it is needed, as told by the counts on all ways to it.
func TestPieces(t *testing.T) {
	for count, words := range []string{"", "3.0", "3.0 -3.1", "3.0 3.0 -3.0", "3.0 3.1 -3.2 3.0", "3.0 3.1 -3.2 3.0 3.0"} {
		for a := 1; a <= 3; a++ {
			for b := 1; b <= 2; b++ {
				c := changed(func(c *api.Chains) { c.Loops = []api.Loop{loop(words, 0, 1)} })
				c.Register.Issues[0].Items[1].Count, c.Register.Issues[2].Items[0].Count = a, b
				want := api.ErrChains
				if 1 <= count && count <= a+b {
					want = api.OK
				}
				if e := chain.Check(c); e != want {
					t.Error(words, a, b, e)
				}
			}
		}
	}
}

// naive tells what Check has to return, as slowly as the chapter does.
func naive(c api.Chains) api.Errno {
	if e := sheet.Check(c.Register); e != api.OK {
		return e
	}
	parts, e := sheet.Explode(c.Register, c.Letters, c.Of)
	good := e == api.OK && 1 <= len(c.Loops) && len(c.Loops) <= 6
	for _, l := range c.Loops {
		good = good && 1 <= len(l.Links) && len(l.Links) <= 8
		good = good && -8000000000 <= l.Gap.Lo && l.Gap.Lo <= l.Gap.Hi && l.Gap.Hi <= 8000000000
		for _, x := range l.Links {
			count, found := 0, false
			for _, y := range l.Links {
				if x.Drawing == y.Drawing {
					count++
				}
			}
			for _, it := range parts {
				found = found || it.Drawing == x.Drawing && count <= it.Count
			}
			good = good && found && 0 <= x.Dim && x.Dim < len(issueOf(c, x.Drawing).Dims)
		}
	}
	if !good {
		return api.ErrChains
	}
	return api.OK
}

// spoil changes something of chains, so that they may not be valid any more.
func spoil(rnd *rand.Rand, c *api.Chains) {
	l := &c.Loops[rnd.Intn(len(c.Loops))]
	x := &l.Links[rnd.Intn(len(l.Links))]
	switch rnd.Intn(7) {
	case 0:
		x.Drawing += rnd.Intn(3) - 1
	case 1:
		x.Dim += rnd.Intn(3) - 1
	case 2:
		l.Links = append(l.Links, *x)
	case 3:
		l.Gap.Lo += rnd.Intn(20)
	case 4:
		c.Letters[rnd.Intn(len(c.Letters))] += rnd.Intn(3) - 1
	case 5:
		c.Of = 1 + rnd.Intn(9)
	case 6:
		c.Loops = append(c.Loops, *l)
	}
}

// P6.1: any chains, and some in which something was changed, are what the chapter tells.
func TestCheckIsNaive(t *testing.T) {
	rnd := rand.New(rand.NewSource(61))
	seen := map[api.Errno]int{}
	for range 6000 {
		c := someChains(rnd)
		for range rnd.Intn(3) {
			spoil(rnd, &c)
		}
		if rnd.Intn(20) == 0 {
			c.Register.Issues[0].Letter++
		}
		e := chain.Check(c)
		if want := naive(c); e != want {
			t.Fatal(c, e, want)
		}
		seen[e]++
	}
	if seen[api.OK] < 1000 || seen[api.ErrChains] < 1000 || seen[api.ErrRegister] < 100 {
		t.Error("few of a kind:", seen)
	}
}

// arguments are all that functions get besides chains.
type arguments struct {
	loop  int
	high  bool
	spots []api.Spot
	grade int
	unit  uint8
}

func told[T any](x T, e api.Errno) (string, api.Errno) { return fmt.Sprint(x), e }

// functions returns all functions of the chapter but Check.
func functions() []trial.Function[api.Chains, arguments] {
	of := trial.Of[api.Chains, arguments]
	return []trial.Function[api.Chains, arguments]{
		of("Reach", "loop", func(c api.Chains, a arguments) (string, api.Errno) { return told(chain.Reach(c, a.loop)) }),
		of("Closes", "loop", func(c api.Chains, a arguments) (string, api.Errno) { return told(chain.Closes(c, a.loop)) }),
		of("Worst", "loop", func(c api.Chains, a arguments) (string, api.Errno) { return told(chain.Worst(c, a.loop, a.high)) }),
		of("Shares", "loop", func(c api.Chains, a arguments) (string, api.Errno) { return told(chain.Shares(c, a.loop)) }),
		of("Wrong", "", func(c api.Chains, _ arguments) (string, api.Errno) { return told(chain.Wrong(c)) }),
		of("Spots", "", func(c api.Chains, _ arguments) (string, api.Errno) { return told(chain.Spots(c)) }),
		of("Grade", "", func(c api.Chains, _ arguments) (string, api.Errno) { return told(chain.Grade(c)) }),
		of("Proof", "", func(c api.Chains, _ arguments) (string, api.Errno) {
			loop, sizes, e := chain.Proof(c)
			return fmt.Sprint(loop, " ", sizes), e
		}),
		of("Fewest", "", func(c api.Chains, _ arguments) (string, api.Errno) { return told(chain.Fewest(c)) }),
		of("Tighten", "spots grade", func(c api.Chains, a arguments) (string, api.Errno) {
			return told(chain.Tighten(c, a.spots, a.grade))
		}),
		of("Redraw", "unit", func(c api.Chains, a arguments) (string, api.Errno) { return told(chain.Redraw(c, a.unit)) }),
	}
}

func isNothing(results string) bool {
	return slices.Contains([]string{"0", "[]", "{0 0}", "0 []", "{{[]} [] 0 []}"}, results)
}

// good returns arguments that are good for the shop, and for such chains as this one.
func good() arguments {
	return arguments{loop: 4, high: true, spots: spots("3.0 5.0"), grade: 1, unit: api.UnitInch}
}

// P6.1, R1, R2: Check's errors come first, whatever the arguments are; nothing else with them.
func TestCheckComesFirst(t *testing.T) {
	bad := arguments{-1, false, spots("5.0 3.0"), -1, 3}
	for _, of := range []map[string]api.Chains{wrongChains(), wrongRegisters()} {
		for _, early := range trial.Early(functions(), of, []arguments{good(), bad, {}}, chain.Check, isNothing) {
			t.Error(early)
		}
	}
}

// roomyGaps returns the chains of the shop, so great that they can be drawn again, with gaps with which a grade is told, and a proof.
func roomyGaps() api.Chains {
	c := shop()
	c.Loops[0].Gap, c.Loops[1].Gap, c.Loops[2].Gap = api.Span{Lo: -90, Hi: 90}, api.Span{Lo: -3, Hi: 12}, api.Span{Lo: -90, Hi: 90}
	c.Loops[3].Gap, c.Loops[4].Gap = api.Span{Lo: 0, Hi: 90}, api.Span{Lo: 10, Hi: 16}
	return scaled(c, 1000)
}

// P6.1 to P6.6: a loop that there is not, spots that are none, a grade, a unit: each function tells just what it takes.
func TestWrongArguments(t *testing.T) {
	wrongs := []trial.Wrong[arguments]{
		trial.Badly("loop", func(a *arguments) { a.loop = 5 }, api.ErrArg),
		trial.Badly("spots", func(a *arguments) { a.spots = spots("6.0") }, api.ErrArg),
		trial.Badly("grade", func(a *arguments) { a.grade = -1 }, api.ErrArg),
		trial.Badly("unit", func(a *arguments) { a.unit = 0 }, api.ErrUnit),
	}
	for _, wrong := range trial.Disordered(functions(), roomyGaps(), good(), wrongs, isNothing) {
		t.Error(wrong)
	}
	for _, far := range append(trial.Far(), -1, 5, 6, api.MaxSize, api.MaxSize+1) {
		for _, x := range []trial.Wrong[arguments]{
			trial.Badly("loop", func(a *arguments) { a.loop = far }, api.ErrArg),
			trial.Badly("grade", func(a *arguments) { a.grade = far }, api.ErrArg),
			trial.Badly("spots", func(a *arguments) { a.spots[0].Drawing = far }, api.ErrArg),
			trial.Badly("spots", func(a *arguments) { a.spots[1].Drawing = far }, api.ErrArg),
			trial.Badly("spots", func(a *arguments) { a.spots[0].Dim = far }, api.ErrArg),
			trial.Badly("spots", func(a *arguments) { a.spots[1].Dim = far }, api.ErrArg),
			trial.Badly("unit", func(a *arguments) { a.unit = uint8(far) }, api.ErrUnit),
		} {
			a := good()
			x.Make(&a)
			want := x.Error
			if isAllowed(a) {
				want = api.OK
			}
			for _, f := range functions() {
				if text, e := f.Call(roomyGaps(), a); f.Has(x.Word) && (e != want || isNothing(text) != (want != api.OK)) || !f.Has(x.Word) && e != api.OK {
					t.Error(x.Word, far, f.Name, text, e)
				}
			}
		}
	}
}

// isAllowed reports whether all arguments are good for the shop.
func isAllowed(a arguments) bool {
	all := spots("3.0 3.1 3.2 5.0")
	first, second := slices.Index(all, a.spots[0]), slices.Index(all, a.spots[1])
	return isIn(api.Span{Lo: 0, Hi: 4}, a.loop) && isIn(api.Span{Lo: 0, Hi: 1000000000}, a.grade) && 0 <= first && first < second && (a.unit == 1 || a.unit == 2)
}

// P6.1: the loops that there are, are; units and grades at their ends, too.
func TestGoodArguments(t *testing.T) {
	for loop := range 5 {
		for _, grade := range []int{0, 1, api.MaxSize} {
			for _, unit := range []uint8{api.UnitMm, api.UnitInch} {
				for _, l := range []string{"", "3.0", "5.0", "3.0 5.0", "3.0 3.1 3.2 5.0"} {
					for _, f := range functions() {
						if text, e := f.Call(roomyGaps(), arguments{loop, false, spots(l), grade, unit}); e != api.OK {
							t.Error(loop, grade, unit, l, f.Name, text, e)
						}
					}
				}
			}
		}
	}
}
