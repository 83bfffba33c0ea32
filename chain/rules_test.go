package chain_test

import (
	"fmt"
	"math/rand"
	"slices"
	"strings"
	"testing"

	"blueline/api"
	"blueline/chain"
	"blueline/trial"
)

// R3, R7: a call returns what it does, whatever was called before it, or is called beside it; none panics.
func TestNothingIsRemembered(t *testing.T) {
	lots := []arguments{good(), {0, false, spots("2.0"), 0, api.UnitMm}, {-1, true, spots("9.9 0.0"), -1, 9}}
	var l []func() string
	for _, of := range []map[string]api.Chains{valid(), wrongChains(), wrongRegisters(), {"drawn": roomyGaps()}} {
		for _, c := range of {
			l = append(l, func() string { return chain.Check(c).Error() })
		}
		l = append(l, trial.Calls(functions(), of, lots)...)
	}
	for _, wrong := range trial.Unsteady(l) {
		t.Error(wrong)
	}
}

// R3: chains that were changed since are others, also if their memory is the same.
func TestChangedSince(t *testing.T) {
	c := example()
	list := spots("2.0 3.0")
	for i, x := range []struct {
		change func()
		want   string
	}{
		{func() {}, "{-2 17}, 2, [{2 0}], [1 2 2 1]"},
		{func() { c.Loops[0].Gap.Lo = -2 }, "{-2 17}, 1000000000, [], [1 2 2 1]"},
		{func() { c.Loops[0].Links[0].Back = true }, "{-819 -800}, error 6, error 6, [1 2 2 1]"},
		{func() { c.Loops[0].Links[0].Back, c.Loops[0].Gap.Hi = false, 16 }, "{-2 17}, 1, [{2 0}], [1 2 2 1]"},
		{func() { c.Register.Issues[1].Dims[0].Nominal = 98 }, "{-2 17}, 0, [{3 0}], [1 2 2 1]"},
		{func() { c.Register.Issues[1].Dims[0].Lower = 99 }, "{-2 15}, 1000000000, [], [1 2 2 1]"},
		{func() { c.Register.Issues[2].Dims[0].Upper = 200 }, "{-1 15}, 1000000000, [], [1 2 2 1]"},
		{func() { list[0] = list[1] }, "{-1 15}, 1000000000, [], error 2"},
		{func() { list = list[1:] }, "{-1 15}, 1000000000, [], [1 1 2 1]"},
		{func() { c.Letters[1] = 2 }, "error 60, error 60, error 60, error 60"},
		{func() { c.Letters[1], c.Register.Issues[0].Items[0].Count = 1, 1 }, "error 60, error 60, error 60, error 60"},
		{func() { c.Register.Issues[0].Items[0].Drawing = 1 }, "error 20, error 20, error 20, error 20"},
	} {
		x.change()
		if text := textOf(c, list); text != x.want {
			t.Error(i, text, "and not", x.want)
		}
	}
}

// textOf is a text of what several functions tell of chains.
func textOf(c api.Chains, l []api.Spot) string {
	orError := func(x any, e api.Errno) string {
		if e != api.OK {
			return e.Error()
		}
		return fmt.Sprint(x)
	}
	reach, e := chain.Reach(c, 0)
	grade, f := chain.Grade(c)
	few, g := chain.Fewest(c)
	tight, h := chain.Tighten(c, l, 0)
	return strings.Join([]string{orError(reach, e), orError(grade, f), orError(few, g), orError(tight.Letters, h)}, ", ")
}

// roomy returns chains all of whose lists have memory behind their ends.
func roomy(c api.Chains, number int) api.Chains {
	c = clone(c)
	behind := api.Link{Drawing: number, Dim: number}
	for i, l := range c.Loops {
		c.Loops[i].Links = trial.Roomy(l.Links, behind)
	}
	c.Register, c.Letters = trial.RoomyRegister(c.Register, number), trial.Roomy(c.Letters, number)
	c.Loops = trial.Roomy(c.Loops, api.Loop{Links: []api.Link{behind}})
	return c
}

// allOf is a text of all arguments, with what is behind the ends of their lists.
func allOf(c api.Chains, a arguments) string {
	text := fmt.Sprint(c, a, trial.Whole(api.Notes{Register: c.Register}), trial.WholeList(c.Letters), trial.WholeList(a.spots))
	for _, l := range trial.WholeList(c.Loops) {
		text += fmt.Sprint(l.Gap, trial.WholeList(l.Links))
	}
	return text
}

// someArguments returns arguments that are good.
func someArguments(rnd *rand.Rand, c api.Chains) arguments {
	l := slices.DeleteFunc(spotsOf(c), func(api.Spot) bool { return rnd.Intn(3) == 0 })
	return arguments{rnd.Intn(len(c.Loops)), rnd.Intn(2) == 0, l, rnd.Intn(3), uint8(1 + rnd.Intn(2))}
}

// R3: nothing is written to arguments, nor behind their ends, and what is there does not matter.
func TestArgumentsAreNotWritten(t *testing.T) {
	rnd := rand.New(rand.NewSource(76))
	for range 200 {
		c := scaled(someChains(rnd), 1+rnd.Intn(2)*1269)
		a := someArguments(rnd, c)
		for number := range 9 {
			other, b := roomy(c, number), a
			b.spots = trial.Roomy(a.spots, api.Spot{Drawing: number})
			before := allOf(other, b)
			if texts, again := trial.Texts(functions(), c, a), trial.Texts(functions(), other, b); !slices.Equal(texts, again) {
				t.Fatal(c, a, number, texts, again)
			}
			if after := allOf(other, b); after != before {
				t.Fatal(before, "is", after)
			}
		}
	}
}

// scribbleChains writes over all lists of chains, from the last one on; before, it checks that none was written over with another one.
func scribbleChains(t *testing.T, c api.Chains) {
	t.Helper()
	want := clone(c)
	for i := len(c.Loops) - 1; i >= 0; i-- {
		if !slices.Equal(c.Loops[i].Links, want.Loops[i].Links) {
			t.Fatal("two loops of a result share memory:", c, want)
		}
		trial.Scribble(c.Loops[i].Links, api.Link{Drawing: -1})
	}
	trial.Scribble(c.Loops, api.Loop{Gap: api.Span{Lo: -1}})
	trial.Scribble(c.Letters, -1)
	if shared := trial.ScribbleRegister(c.Register, want.Register); len(shared) > 0 {
		t.Fatal("two lists of a result share memory:", shared)
	}
}

// R3: what is written to a result is not written to arguments, nor to other results.
func TestResultsAreNew(t *testing.T) {
	rnd := rand.New(rand.NewSource(77))
	for range 500 {
		c := roomy(scaled(someChains(rnd), 1+rnd.Intn(2)*1269), 3)
		a := someArguments(rnd, c)
		a.spots = trial.Roomy(a.spots, api.Spot{Drawing: 3})
		before := allOf(c, a)
		texts := trial.Texts(functions(), c, a)
		worst, _ := chain.Worst(c, a.loop, a.high)
		shares, _ := chain.Shares(c, a.loop)
		wrong, _ := chain.Wrong(c)
		_, sizes, _ := chain.Proof(c)
		for _, l := range [][]int{worst, shares, wrong, sizes} {
			trial.Scribble(l, -1)
		}
		all, _ := chain.Spots(c)
		few, _ := chain.Fewest(c)
		for _, l := range [][]api.Spot{all, few} {
			trial.Scribble(l, api.Spot{Drawing: -1})
		}
		tight, _ := chain.Tighten(c, a.spots, a.grade)
		scribbleChains(t, tight)
		again, _ := chain.Redraw(c, a.unit)
		scribbleChains(t, again)
		if after := allOf(c, a); after != before {
			t.Fatal(before, "is", after)
		}
		if again := trial.Texts(functions(), c, a); !slices.Equal(again, texts) {
			t.Fatal(again, "and before", texts)
		}
	}
}

// R4: a nil list and an empty one are the same, wherever they are.
func TestNilAndEmpty(t *testing.T) {
	for name, c := range valid() {
		empty := clone(c)
		empty.Register = trial.EmptyNotes(api.Notes{Register: c.Register}).Register
		a := arguments{unit: api.UnitInch}
		b := a
		b.spots = []api.Spot{}
		if texts, again := trial.Texts(functions(), c, a), trial.Texts(functions(), empty, b); !slices.Equal(texts, again) {
			t.Error(name, texts, again)
		}
	}
	for name, change := range map[string]func(c *api.Chains){
		"loops":   func(c *api.Chains) { c.Loops = []api.Loop{} },
		"links":   func(c *api.Chains) { c.Loops[1].Links = []api.Link{} },
		"letters": func(c *api.Chains) { c.Letters = []int{} },
	} {
		if e := chain.Check(changed(change)); e != api.ErrChains {
			t.Error(name, e)
		}
	}
}

// R5: sums of the greatest sizes are told as they are, also if the gap is far away from them.
func TestGreatSums(t *testing.T) {
	least := api.Span{Lo: -api.MaxGap, Hi: -api.MaxGap}
	for i, x := range []struct {
		nominal  int
		gap      api.Span
		grade    int
		e        api.Errno
		fewest   int
		f        api.Errno
		original uint8
	}{
		{0, api.Span{Hi: api.MaxGap}, api.MaxSize, api.OK, 0, api.OK, api.KnownYes},
		{0, api.Span{Hi: api.MaxGap - 1}, api.MaxSize - 1, api.OK, 1, api.OK, api.KnownOpen},
		{api.MaxSize, api.Span{Lo: 1, Hi: api.MaxGap}, api.MaxSize - 1, api.OK, 1, api.OK, api.KnownOpen},
		{api.MaxSize, api.Span{Lo: api.MaxGap, Hi: api.MaxGap}, 0, api.OK, 8, api.OK, api.KnownOpen},
		{api.MaxSize - 1, api.Span{Lo: api.MaxGap, Hi: api.MaxGap}, 0, api.ErrNone, 0, api.ErrNone, api.KnownOpen},
		{0, api.Span{}, 0, api.OK, 8, api.OK, api.KnownOpen}, {0, least, 0, api.ErrNone, 0, api.ErrNone, api.KnownNo}, {500000000, api.Span{Lo: 3999999992, Hi: 4000000015}, 1, api.OK, 8, api.OK, api.KnownOpen},
	} {
		c := alone(api.MaxItems, 1, api.MaxLinks, dim(x.nominal, 0, api.MaxSize))
		c.Loops[0].Gap = x.gap
		grade, e := chain.Grade(c)
		few, f := chain.Fewest(c)
		known, g := chain.Closes(c, 0)
		if grade != x.grade || e != x.e || len(few) != x.fewest || f != x.f || known != x.original || g != api.OK {
			t.Error(i, grade, e, few, f, known, g)
		}
	}
}

// R6: chains are valid by what is in them alone, also if a part of nothing has any kind, or any sizes.
func TestAnyValue(t *testing.T) {
	for kind := range 256 {
		c := shop()
		for i := range c.Register.Issues[3:] {
			c.Register.Issues[3+i].Kind = uint8(kind)
		}
		want := api.ErrRegister
		if kind == api.KindPart || kind == api.KindStandard {
			want = api.OK
		}
		if e := chain.Check(c); e != want {
			t.Error(kind, e)
		}
		if _, e := chain.Redraw(scaled(shop(), 12700), uint8(kind)); (e == api.OK) != (kind == api.UnitMm || kind == api.UnitInch) {
			t.Error(kind, e)
		}
	}
}

// R7: each call ends soon, however much there is of anything.
func TestEnds(t *testing.T) {
	const many = 300000
	for name, c := range map[string]api.Chains{
		"loops":   changed(func(c *api.Chains) { c.Loops = slices.Repeat(c.Loops, many/5) }),
		"links":   changed(func(c *api.Chains) { c.Loops[0].Links = slices.Repeat(c.Loops[0].Links, many/5) }),
		"zeros":   changed(func(c *api.Chains) { c.Loops[0].Links = make([]api.Link, many) }),
		"letters": changed(func(c *api.Chains) { c.Letters = slices.Repeat(c.Letters, many/5) }),
	} {
		for _, f := range functions() {
			if text, e := f.Call(c, good()); e != api.ErrChains || !isNothing(text) {
				t.Error(name, f.Name, text, e)
			}
		}
	}
	long := good()
	for _, l := range [][]api.Spot{make([]api.Spot, many), slices.Repeat(spots("3.0 5.0"), many)} {
		long.spots = l
		for _, f := range functions() {
			if _, e := f.Call(roomyGaps(), long); e != api.OK && (f.Name != "Tighten" || e != api.ErrArg) {
				t.Error(f.Name, e)
			}
		}
	}
}
