package recall_test

import (
	"fmt"
	"math/rand"
	"slices"
	"testing"

	"blueline/api"
	"blueline/recall"
	"blueline/trial"
)

// R3, R7: a call returns what it does, whatever was called before it, or is called beside it; none panics.
func TestNothingIsRemembered(t *testing.T) {
	lots := []arguments{good(), {day: 5, holder: 1, drawing: 3, machine: 9, holders: []int{1}, drawings: []int{3}, print: sent(99, 5, 1, 30, 1)}, {day: -1, holder: -1, holders: []int{0}}}
	var l []func() string
	for _, of := range []map[string]api.Prints{valid(), wrongPrints(), wrongNotes()} {
		for _, p := range of {
			l = append(l, func() string { return recall.Check(p).Error() })
		}
		l = append(l, trial.Calls(functions(), of, lots)...)
	}
	for _, wrong := range trial.Unsteady(l) {
		t.Error(wrong)
	}
}

// R3: prints that were changed since are others, also if their memory is the same.
func TestChangedSince(t *testing.T) {
	p := example()
	for i, x := range []struct {
		change func()
		want   string
	}{
		{func() {}, "[1 3 4] error 0"},
		{func() { p.Prints[0].Lost = api.KnownYes }, "[3 4] error 0"},
		{func() { p.Prints[2].Back = 299 }, "[4] error 0"},
		{func() { p.Prints[3].Issue.Letter = 2 }, "[] error 0"},
		{func() { p.Prints[4].Issue.Letter = 2 }, "[5] error 0"},
		{func() { p.Holders[0].Drawings[1] = 50 }, "[5] error 0"},
		{func() { p.Holders[2].From = 20 }, "[] error 0"},
		{func() { p.Notes.Notes[1].Signed = api.KnownNo }, "[5 6] error 0"},
		{func() { p.Notes.Notes[1].Signed = api.KnownYes }, "[] error 0"},
		{func() { p.Notes.Notes[1].Drawing, p.Notes.Notes[1].Letter = 20, 1 }, "[5 6] error 0"},
		{func() { p.Holders[1].Drawings[0] = 35 }, "[] error 70"},
		{func() { p.Notes.Notes[1].Letter = 2 }, "[] error 30"},
		{func() { p.Notes.Register.Issues[1].Letter = 1 }, "[] error 20"},
	} {
		x.change()
		if text := fmt.Sprint(recall.Stale(p, 300)); text != x.want {
			t.Error(i, text, "and not", x.want)
		}
	}
}

// roomy returns prints all of whose lists have memory behind their ends.
func roomy(p api.Prints, number int) api.Prints {
	p = clone(p)
	for i, h := range p.Holders {
		p.Holders[i].Drawings = trial.Roomy(h.Drawings, number)
	}
	p.Notes = trial.RoomyNotes(p.Notes, number)
	p.Holders = trial.Roomy(p.Holders, holder(number, 1, api.MaxMachine, number))
	p.Prints = trial.Roomy(p.Prints, sent(number, number, number, number, 1))
	return p
}

// allOf is a text of all arguments, with what is behind the ends of their lists.
func allOf(p api.Prints, a arguments) string {
	text := fmt.Sprint(p, a, trial.Whole(p.Notes), trial.WholeList(p.Prints), trial.WholeList(a.holders), trial.WholeList(a.drawings))
	for _, h := range trial.WholeList(p.Holders) {
		text += fmt.Sprint(h, trial.WholeList(h.Drawings))
	}
	return text
}

// someArguments returns arguments that are good for prints with holders.
func someArguments(rnd *rand.Rand, p api.Prints) arguments {
	ids, drawings, machines := idsOf(p), trial.DrawingsOf(p.Notes), trial.MachinesOf(p.Notes)
	a := arguments{
		day: rnd.Intn(8), holder: ids[rnd.Intn(len(ids))], drawing: drawings[rnd.Intn(len(drawings))], machine: machines[rnd.Intn(len(machines))],
		holders: some(rnd, ids), drawings: some(rnd, drawings), print: printsOf(rnd, p, 1)[0],
	}
	a.print.Number = 1 + rnd.Intn(api.MaxId)
	return a
}

// R3: nothing is written to arguments, nor behind their ends, and what is there does not matter.
func TestArgumentsAreNotWritten(t *testing.T) {
	rnd := rand.New(rand.NewSource(107))
	for range 50 {
		p := somePrints(rnd)
		if len(p.Holders) == 0 {
			continue
		}
		a := someArguments(rnd, p)
		for _, number := range append([]int{0, 1, 7}, trial.OpenOf(p.Notes)...) {
			other, b := roomy(p, number), a
			b.holders, b.drawings = trial.Roomy(a.holders, number), trial.Roomy(a.drawings, number)
			before := allOf(other, b)
			if texts, again := trial.Texts(functions(), p, a), trial.Texts(functions(), other, b); !slices.Equal(texts, again) {
				t.Fatal(p, a, number, texts, again)
			}
			if after := allOf(other, b); after != before {
				t.Fatal(before, "is", after)
			}
		}
	}
}

// scribblePrints writes over all lists of prints, from the last one on; before, it checks that none was written over with another one.
func scribblePrints(t *testing.T, p api.Prints) {
	t.Helper()
	want := clone(p)
	trial.Scribble(p.Prints, sent(-1, -1, -1, -1, -1))
	for i := len(p.Holders) - 1; i >= 0; i-- {
		if !slices.Equal(p.Holders[i].Drawings, want.Holders[i].Drawings) {
			t.Fatal("two holders of a result share memory:", p, want)
		}
		trial.Scribble(p.Holders[i].Drawings, -1)
	}
	trial.Scribble(p.Holders, holder(-1, -1, -1))
	if shared := trial.ScribbleNotes(p.Notes, want.Notes); len(shared) > 0 {
		t.Fatal("two lists of a result share memory:", shared)
	}
}

// scribblePairs writes over two lists of a result, the second one of which is not written over with the first one.
func scribblePairs(t *testing.T, one, other []int) {
	t.Helper()
	want := slices.Clone(other)
	if trial.Scribble(one, -1); !slices.Equal(other, want) {
		t.Fatal("two lists of a result share memory:", other, want)
	}
	trial.Scribble(other, -1)
}

// scribbleResults writes over all results.
func scribbleResults(t *testing.T, p api.Prints, a arguments) {
	t.Helper()
	sure, perhaps, _ := recall.Held(p, a.day, a.holder)
	scribblePairs(t, sure, perhaps)
	holders, drawings, _ := recall.Calls(p, a.day)
	scribblePairs(t, holders, drawings)
	works, _ := recall.Works(p, a.day, a.holder, a.drawing)
	needs, _ := recall.Needs(p, a.holder, a.drawing)
	stale, _ := recall.Stale(p, a.day)
	proof, _ := recall.Proof(p, a.day)
	for _, l := range [][]int{works, needs, stale, proof} {
		trial.Scribble(l, -1)
	}
	misses, _ := recall.Misses(p, a.day, a.holder)
	trial.Scribble(misses, ref(-1, -1))
	called, _ := recall.Call(p, a.day, a.holders, a.drawings)
	scribblePrints(t, called)
	more, _ := recall.Send(p, a.print)
	scribblePrints(t, more)
}

// R3: what is written to a result is not written to arguments, nor to other results.
func TestResultsAreNew(t *testing.T) {
	rnd := rand.New(rand.NewSource(108))
	for range 200 {
		p := somePrints(rnd)
		if len(p.Holders) == 0 {
			continue
		}
		p = roomy(p, 3)
		a := someArguments(rnd, p)
		a.holders, a.drawings = trial.Roomy(a.holders, 3), trial.Roomy(a.drawings, 3)
		before := allOf(p, a)
		texts := trial.Texts(functions(), p, a)
		scribbleResults(t, p, a)
		if after := allOf(p, a); after != before {
			t.Fatal(before, "is", after)
		}
		if again := trial.Texts(functions(), p, a); !slices.Equal(again, texts) {
			t.Fatal(again, "and before", texts)
		}
	}
}

// R4: a nil list and an empty one are the same, wherever they are.
func TestNilAndEmpty(t *testing.T) {
	for name, p := range valid() {
		empty := clone(p)
		empty.Notes = trial.EmptyNotes(p.Notes)
		empty.Holders, empty.Prints = append([]api.Holder{}, p.Holders...), append([]api.Print{}, p.Prints...)
		for i, h := range p.Holders {
			empty.Holders[i].Drawings = append([]int{}, h.Drawings...)
		}
		a := good()
		a.holders, a.drawings = nil, nil
		b := a
		b.holders, b.drawings = []int{}, []int{}
		if texts, again := trial.Texts(functions(), p, a), trial.Texts(functions(), empty, b); !slices.Equal(texts, again) {
			t.Error(name, texts, again)
		}
	}
}

// R5, R6: prints are valid by what is in them alone; numbers of a byte are not cut off.
func TestAnyValue(t *testing.T) {
	for k := range 256 {
		want, wantBack := api.ErrPrints, api.ErrPrints
		if k <= api.KnownYes {
			want = api.OK
		}
		if k == api.KnownNo {
			wantBack = api.OK
		}
		x := lost(uint8(k), sent(4, 10, 3, 30, 1))
		if e := recall.Check(with(map[int]api.Print{3: x})); e != want {
			t.Error(k, e)
		}
		if e := recall.Check(with(map[int]api.Print{3: back(10, x)})); e != wantBack {
			t.Error("back", k, e)
		}
	}
}

// R7: each call ends soon, however much there is of anything.
func TestEnds(t *testing.T) {
	const many = 300000
	var holders []api.Holder
	var prints []api.Print
	var drawings []int
	for i := range many {
		holders = append(holders, holder(1+i, 1, 9, 10))
		prints = append(prints, sent(1+i, 5, 1, 30, 1))
		drawings = append(drawings, 1+i)
	}
	for name, p := range map[string]api.Prints{
		"holders":      changed(func(p *api.Prints) { p.Holders = holders }),
		"prints":       changed(func(p *api.Prints) { p.Prints = prints }),
		"drawings":     changed(func(p *api.Prints) { p.Holders[0].Drawings = drawings }),
		"zero holders": changed(func(p *api.Prints) { p.Holders = make([]api.Holder, many) }),
		"zero prints":  changed(func(p *api.Prints) { p.Prints = make([]api.Print, many) }),
	} {
		for _, f := range functions() {
			if text, e := f.Call(p, good()); e != api.ErrPrints || !isNothing(text) {
				t.Error(name, f.Name, e)
			}
		}
	}
	long := good()
	long.holders, long.drawings = slices.Repeat([]int{2, 1}, many), slices.Repeat([]int{10, 40}, many)
	wrong := good()
	wrong.holders, wrong.drawings = make([]int, many), drawings
	for _, f := range functions() {
		if _, e := f.Call(example(), long); e != api.OK {
			t.Error(f.Name, e)
		}
		if _, e := f.Call(example(), wrong); e != api.OK && (f.Name != "Call" || e != api.ErrNone) {
			t.Error(f.Name, e)
		}
	}
	most := arguments{day: 99, holder: 6, drawing: 4, machine: 99, holders: []int{1, 2, 3, 4, 5, 6}, drawings: []int{20, 1}, print: sent(31, 5, 1, 1, 1)}
	for range 20 {
		for _, f := range functions() {
			if _, e := f.Call(full(), most); e != api.OK && (f.Name != "Send" || e != api.ErrFull) {
				t.Error(f.Name, e)
			}
		}
	}
}
