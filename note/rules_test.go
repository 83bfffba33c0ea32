package note_test

import (
	"fmt"
	"math/rand"
	"slices"
	"testing"

	"blueline/api"
	"blueline/note"
	"blueline/trial"
)

// calls returns calls of all functions, with good and bad arguments, each with a text of its results.
func calls() []func() string {
	var l []func() string
	all := []arguments{{nil, 30, 2, 9, 102}, {[]int{102}, 10, 2, 15, 5}, {[]int{2, 5}, 7, 3, 500, 2}, {[]int{101}, 0, 0, 0, 0}}
	for _, of := range []map[string]api.Notes{valid(), wrongNotes(), wrongRegisters()} {
		for _, n := range of {
			l = append(l, func() string { return note.Check(n).Error() })
		}
		l = append(l, trial.Calls(functions(), of, all)...)
	}
	return l
}

// R3, R7: a call returns what it does, whatever was called before it, or is called beside it; none panics.
func TestNothingIsRemembered(t *testing.T) {
	for _, wrong := range trial.Unsteady(calls()) {
		t.Error(wrong)
	}
}

// R3: notes that were changed since are others, also if their memory is the same.
func TestChangedSince(t *testing.T) {
	n := example()
	signed := []int{102}
	for i, x := range []struct {
		change func()
		want   string
	}{
		{func() {}, "[2 1 2 1 1] error 0"},
		{func() { n.Notes[0].From = 10 }, "[2 1 1 1 1] error 0"},
		{func() { n.Notes[1].To = 8 }, "[1 1 1 1 1] error 0"},
		{func() { n.Notes[3].From, n.Notes[3].Letter = 9, 2 }, "[1 1 2 1 1] error 0"},
		{func() { signed[0] = 101 }, "[] error 31"},
		{func() { n.Notes[0].Signed = api.KnownOpen }, "[1 1 2 1 1] error 0"},
		{func() { n.Register.Issues[4].Drawing = 31 }, "[] error 20"},
		{func() { n.Register.Issues[4].Letter = 1 }, "[] error 30"},
		{func() { n.Notes[0].Drawing, n.Notes[0].Letter, n.Notes[3].Drawing, n.Notes[3].Letter = 31, 1, 10, 2 }, "[2 1 1 1 1 1] error 0"},
	} {
		x.change()
		if s := fmt.Sprint(note.Letters(n, signed, 9)); s != x.want {
			t.Error(i, s, "and not", x.want)
		}
	}
}

// allOf is a text of notes, and of a truth, with what is behind the ends of their lists.
func allOf(n api.Notes, signed []int) string {
	return fmt.Sprint(n, signed, trial.Whole(n), trial.WholeList(signed))
}

// R3: nothing is written to arguments, nor behind their ends, and what is there does not matter.
func TestArgumentsAreNotWritten(t *testing.T) {
	rnd := rand.New(rand.NewSource(42))
	for range 30 {
		n := trial.SomeNotes(rnd)
		truth := trial.SomeTruth(rnd, n)
		for _, number := range append([]int{0, 30, 102}, trial.OpenOf(n)...) {
			other, signed := trial.RoomyNotes(n, number), trial.Roomy(truth, number)
			before := allOf(other, signed)
			for _, d := range trial.DrawingsOf(n) {
				for _, f := range functions() {
					s, e := f.Call(n, arguments{truth, d, 2, 5, number})
					if again, f := f.Call(other, arguments{signed, d, 2, 5, number}); s != again || e != f {
						t.Fatal(n, truth, d, number, s, e, again, f)
					}
				}
			}
			if after := allOf(other, signed); after != before {
				t.Fatal(before, "is", after)
			}
		}
	}
}

// R3: what is written to a result is not written to arguments, nor to other results.
func TestResultsAreNew(t *testing.T) {
	rnd := rand.New(rand.NewSource(43))
	for range 200 {
		n := trial.RoomyNotes(trial.SomeNotes(rnd), 3)
		signed := trial.Roomy(trial.SomeTruth(rnd, n), 3)
		before := allOf(n, signed)
		a := arguments{signed, trial.DrawingsOf(n)[0], 1, 4, 0}
		if l := trial.OpenOf(n); len(l) > 0 {
			a.number = l[0]
		}
		texts := trial.Texts(functions(), n, a)
		for _, call := range []func() ([]int, api.Errno){
			func() ([]int, api.Errno) { return note.Force(n, signed, 4) },
			func() ([]int, api.Errno) { return note.Letters(n, signed, 4) },
			func() ([]int, api.Errno) { return note.Possible(n, a.drawing, 4) },
			func() ([]int, api.Errno) { return note.Sure(n, 4) },
			func() ([]int, api.Errno) { return note.Matters(n, 4) },
			func() ([]int, api.Errno) { return note.Withdraw(n, signed) },
		} {
			l, _ := call()
			trial.Scribble(l, -1)
		}
		stretches, _ := note.Stretches(n, signed, a.drawing)
		trial.Scribble(stretches, api.Stretch{From: -1})
		pairs, _ := note.Clash(n, signed)
		trial.Scribble(pairs, [2]int{-1, -1})
		if settled, e := note.Settle(n, a.number, true); e == api.OK {
			if shared := trial.ScribbleNotes(settled, trial.CloneNotes(n)); len(shared) > 0 {
				t.Error("two lists of a result share memory:", shared)
			}
		}
		if after := allOf(n, signed); after != before {
			t.Fatal(before, "is", after)
		}
		if again := trial.Texts(functions(), n, a); !slices.Equal(again, texts) {
			t.Fatal(again, "and before", texts)
		}
	}
}

// R4: a nil list and an empty one are the same, wherever they are.
func TestNilAndEmpty(t *testing.T) {
	for name, n := range valid() {
		empty := trial.EmptyNotes(n)
		for _, d := range trial.DrawingsOf(n) {
			for _, f := range functions() {
				a := arguments{nil, d, 2, 9, 102}
				s, e := f.Call(n, a)
				a.signed = []int{}
				if again, g := f.Call(empty, a); s != again || e != g {
					t.Error(name, f.Name, d, s, e, again, g)
				}
			}
		}
	}
}

// R5, R6: a note is valid by what is in it alone; numbers of a byte are not cut off.
func TestAnyValue(t *testing.T) {
	for k := range 256 {
		want := api.ErrNotes
		if k <= api.KnownYes {
			want = api.OK
		}
		if e := note.Check(trial.Noted(trial.As(uint8(k), trial.Gives(1, 0, 30, 2, 1, 9)))); e != want {
			t.Error("signed", k, e)
		}
		if want = api.ErrNotes; k <= api.WayBoth {
			want = api.OK
		}
		x := trial.Gives(1, 0, 30, 2, 1, 9)
		x.Ways = uint8(k)
		if e := note.Check(trial.Noted(x)); e != want {
			t.Error("ways", k, e)
		}
	}
}

// R7: each call ends soon, however much there is of anything.
func TestEnds(t *testing.T) {
	const many = 300000
	var long []api.Note
	for i := range many {
		long = append(long, trial.Gives(1+i, 0, 30, 2, 1, 9))
	}
	for name, n := range map[string]api.Notes{"zeros": trial.Noted(make([]api.Note, many)...), "many": trial.Noted(long...)} {
		for _, f := range functions() {
			if s, e := f.Call(n, arguments{make([]int, many), 30, 2, 9, 1}); e != api.ErrNotes || !isNothing(s) {
				t.Error(name, f.Name, e)
			}
		}
	}
	for _, f := range functions() {
		if s, e := f.Call(api.Notes{Register: api.Register{Issues: make([]api.Issue, many)}, Notes: long}, arguments{}); e != api.ErrRegister || !isNothing(s) {
			t.Error(f.Name, e)
		}
	}
	for _, signed := range trial.TruthsOf(thread()) {
		for _, f := range functions() {
			if _, e := f.Call(thread(), arguments{signed, 7, 1, 9, 5}); e != api.OK {
				t.Error(f.Name, signed, e)
			}
		}
	}
}
