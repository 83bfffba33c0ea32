package swap_test

import (
	"fmt"
	"math/rand"
	"slices"
	"testing"

	"blueline/api"
	"blueline/swap"
	"blueline/trial"
)

// R3, R7: a call returns what it does, whatever was called before it, or is called beside it; none panics.
func TestNothingIsRemembered(t *testing.T) {
	lots := []arguments{good(), {[]int{102}, 11, 320, 310, is("10A"), is("10B")}, {[]int{91, 100}, 500, 3, 40, is("1A"), is("4E")}, {[]int{101}, 0, -1, -1, api.Ref{}, api.Ref{}}}
	var l []func() string
	for _, of := range []map[string]api.Swaps{valid(), wrongSwaps(), wrongNotes()} {
		for _, s := range of {
			l = append(l, func() string { return swap.Check(s).Error() })
		}
		l = append(l, trial.Calls(functions(), of, lots)...)
	}
	for _, wrong := range trial.Unsteady(l) {
		t.Error(wrong)
	}
}

// R3: swaps that were changed since are others, also if their memory is the same.
func TestChangedSince(t *testing.T) {
	s := open()
	signed := []int{104}
	for i, x := range []struct {
		change func()
		want   string
	}{
		{func() {}, "note 101 30B-30A, rule 1 40A-30B, error 0"},
		{func() { s.Rules[2].Breaks = 1 }, "note 101 30B-30A, rule 2 50A-40A, rule 2 40A-50A, error 0"},
		{func() { s.Rules[1].Both, s.Rules[2].Day = false, 301 }, "note 101 30B-30A, rule 2 50A-40A, error 0"},
		{func() { s.Rules[2].Day = api.MaxDay }, "note 101 30B-30A, rule 1 40A-30B, rule 2 50A-40A, error 0"},
		{func() { signed[0] = 102 }, "rule 1 40A-30B, rule 2 50A-40A, error 0"},
		{func() { signed[0] = 101 }, ", error 31"},
		{func() { s.Notes.Notes[0].Signed = api.KnownOpen }, "rule 1 40A-30B, rule 2 50A-40A, error 0"},
		{func() { s.Notes.Notes[1].Signed = api.KnownNo }, "note 101 30B-30A, rule 1 40A-30B, rule 2 50A-40A, error 0"},
		{func() { s.Notes.Notes[0].Ways = api.WayBoth }, "note 101 30A-30B, note 101 30B-30A, rule 1 40A-30B, rule 2 50A-40A, error 0"},
		{func() { s.Notes.Register.Issues[6].Drawing = 51 }, ", error 20"},
		{func() { s.Notes.Register.Issues[2].Items[1].Drawing = 51 }, ", error 50"},
		{func() { s.Rules[1].From = is("51A") }, "note 101 30A-30B, note 101 30B-30A, rule 1 40A-30B, rule 2 51A-40A, error 0"},
	} {
		x.change()
		l, e := swap.Steps(s, signed, 11, 310)
		if text := stepsText(l) + ", " + e.Error(); text != x.want {
			t.Error(i, text, "and not", x.want)
		}
	}
}

// roomy returns swaps all of whose lists have memory behind their ends.
func roomy(s api.Swaps, number int) api.Swaps {
	return api.Swaps{Notes: trial.RoomyNotes(s.Notes, number), Rules: trial.RoomyRules(s.Rules, number)}
}

// allOf is a text of all arguments, with what is behind the ends of their lists.
func allOf(s api.Swaps, a arguments) string {
	return fmt.Sprint(s, a, trial.Whole(s.Notes), trial.WholeList(s.Rules), trial.WholeList(a.signed))
}

// someArguments returns arguments that are good.
func someArguments(rnd *rand.Rand, s api.Swaps) arguments {
	at, issues := someSpot(rnd, s), issuesOf(s)
	return arguments{at.signed, at.machine, at.day, rnd.Intn(6), issues[rnd.Intn(len(issues))], issues[rnd.Intn(len(issues))]}
}

// R3: nothing is written to arguments, nor behind their ends, and what is there does not matter.
func TestArgumentsAreNotWritten(t *testing.T) {
	rnd := rand.New(rand.NewSource(86))
	for range 60 {
		s := someSwaps(rnd)
		a := someArguments(rnd, s)
		for _, number := range append([]int{0, 1, 7}, trial.OpenOf(s.Notes)...) {
			other, b := roomy(s, number), a
			b.signed = trial.Roomy(a.signed, number)
			before := allOf(other, b)
			for _, f := range functions() {
				text, e := f.Call(s, a)
				if again, g := f.Call(other, b); text != again || e != g {
					t.Fatal(s, a, number, f.Name, text, e, again, g)
				}
			}
			if after := allOf(other, b); after != before {
				t.Fatal(before, "is", after)
			}
		}
	}
}

// scribbleLists writes over lists, from the last one on; before, it checks that none was written over with another one.
func scribbleLists(t *testing.T, l, want [][]api.Ref) {
	t.Helper()
	for i := len(l) - 1; i >= 0; i-- {
		if !slices.Equal(l[i], want[i]) {
			t.Fatal("two lists of a result share memory:", l, want)
		}
		trial.Scribble(l[i], api.Ref{Drawing: -1})
	}
}

// mayOf returns the lists of pieces of all places.
func mayOf(places []api.Pieces) [][]api.Ref {
	var l [][]api.Ref
	for _, p := range places {
		l = append(l, p.May)
	}
	return l
}

// scribbleResults writes over all results.
func scribbleResults(t *testing.T, s api.Swaps, a arguments) {
	t.Helper()
	rules, _ := swap.Rules(s, a.day)
	trial.Scribble(rules, -1)
	steps, _ := swap.Steps(s, a.signed, a.machine, a.day)
	trial.Scribble(steps, api.Step{Number: -1})
	chain, _ := swap.Chain(s, a.signed, a.machine, a.day, a.piece, a.place)
	trial.Scribble(chain, api.Step{Number: -1})
	pieces, _ := swap.For(s, a.signed, a.machine, a.day, a.place)
	trial.Scribble(pieces, api.Ref{Drawing: -1})
	places, _ := swap.In(s, a.signed, a.machine, a.day, a.piece)
	trial.Scribble(places, api.Ref{Drawing: -1})
	pairs, _ := swap.Lost(s, a.signed, a.machine, a.day, a.to)
	trial.Scribble(pairs, [2]api.Ref{{Drawing: -1}})
	classes, _ := swap.Classes(s, a.signed, a.machine, a.day)
	others, _ := swap.Classes(s, a.signed, a.machine, a.day)
	scribbleLists(t, classes, others)
	trial.Scribble(classes, nil)
	own, _ := swap.Places(s, a.signed, a.machine, a.day)
	other, _ := swap.Places(s, a.signed, a.machine, a.day)
	scribbleLists(t, mayOf(own), mayOf(other))
	trial.Scribble(own, api.Pieces{Issue: api.Ref{Drawing: -1}})
}

// R3: what is written to a result is not written to arguments, nor to other results.
func TestResultsAreNew(t *testing.T) {
	rnd := rand.New(rand.NewSource(87))
	for range 200 {
		s := roomy(someSwaps(rnd), 3)
		a := someArguments(rnd, s)
		a.signed = trial.Roomy(a.signed, 3)
		before := allOf(s, a)
		texts := trial.Texts(functions(), s, a)
		scribbleResults(t, s, a)
		if after := allOf(s, a); after != before {
			t.Fatal(before, "is", after)
		}
		if again := trial.Texts(functions(), s, a); !slices.Equal(again, texts) {
			t.Fatal(again, "and before", texts)
		}
	}
}

// R4: a nil list and an empty one are the same, wherever they are.
func TestNilAndEmpty(t *testing.T) {
	for name, s := range valid() {
		empty := api.Swaps{Notes: trial.EmptyNotes(s.Notes), Rules: append([]api.Rule{}, s.Rules...)}
		for _, f := range functions() {
			a := good()
			text, e := f.Call(s, a)
			a.signed = []int{}
			if again, g := f.Call(empty, a); text != again || e != g {
				t.Error(name, f.Name, text, e, again, g)
			}
		}
	}
}

// R7: each call ends soon, however much there is of anything.
func TestEnds(t *testing.T) {
	const many = 300000
	var long []api.Rule
	for i := range many {
		long = append(long, breaking(i, rule(1+i, 1, "10A", "10B")))
	}
	for name, l := range map[string][]api.Rule{"zeros": make([]api.Rule, many), "many": long} {
		for _, f := range functions() {
			if text, e := f.Call(ruled(l...), arguments{make([]int, many), 9, 1, 1, is("10A"), is("10B")}); e != api.ErrSwaps || !isNothing(text) {
				t.Error(name, f.Name, e)
			}
		}
	}
	web := valid()["full"]
	for i := range web.Rules {
		web.Rules[i].Breaks = 0
		if i > 0 {
			web.Rules[i].Breaks = web.Rules[i/2].Number
		}
	}
	for _, s := range []api.Swaps{valid()["full"], web} {
		for _, signed := range trial.TruthsOf(s.Notes) {
			for _, f := range functions() {
				if _, e := f.Call(s, arguments{signed, 9, 30, 99, is("1A"), is("4E")}); e != api.OK && (f.Name != "Chain" || e != api.ErrNone) {
					t.Error(f.Name, signed, e)
				}
			}
		}
	}
}
