package note_test

import (
	"fmt"
	"math/rand"
	"slices"
	"testing"

	"blueline/api"
	"blueline/note"
	"blueline/trial"
)

// P3.4: the examples.
func TestPossibleExamples(t *testing.T) {
	n := example()
	for _, x := range []struct {
		drawing, machine int
		want             []int
	}{{10, 10, []int{1, 2}}, {10, 7, []int{1}}, {10, 8, []int{1, 2}}, {10, 20, []int{1, 2}}, {10, 21, []int{1}}, {30, 9, []int{2}}, {30, 15, []int{1}}, {50, 1, []int{1}}} {
		if l, e := note.Possible(n, x.drawing, x.machine); !slices.Equal(l, x.want) || e != api.OK {
			t.Error(x, l, e)
		}
	}
	for _, x := range []struct {
		machine       int
		sure, matters []int
	}{{10, []int{0, 1, 1, 1, 1}, []int{102}}, {30, []int{1, 1, 2, 1, 1}, nil}, {7, []int{1, 1, 2, 1, 1}, nil}, {8, []int{0, 1, 2, 1, 1}, []int{102}}, {1, []int{1, 1, 1, 1, 1}, nil}} {
		if l, e := note.Sure(n, x.machine); !slices.Equal(l, x.sure) || e != api.OK {
			t.Error(x, l, e)
		}
		if l, e := note.Matters(n, x.machine); !slices.Equal(l, x.matters) || e != api.OK {
			t.Error(x, l, e)
		}
	}
}

// P3.7: the examples, and notes that are not open.
func TestSettleExamples(t *testing.T) {
	for _, x := range []struct {
		signed bool
		want   []int
		known  uint8
	}{{true, []int{2}, api.KnownYes}, {false, []int{1}, api.KnownNo}} {
		n, e := note.Settle(example(), 102, x.signed)
		want := changed(func(l []api.Note) { l[1].Signed = x.known })
		if text(n) != text(want) || e != api.OK {
			t.Error(n, e)
		}
		if l, e := note.Possible(n, 10, 10); !slices.Equal(l, x.want) || e != api.OK {
			t.Error(l, e)
		}
		if again, e := note.Settle(n, 102, x.signed); len(again.Notes) > 0 || len(again.Register.Issues) > 0 || e != api.ErrNone {
			t.Error(again, e)
		}
	}
	not := changed(func(l []api.Note) { l[0].Signed = api.KnownNo })
	for _, number := range append(trial.Far(), 101, 103, 104, 105, 10, 30, 1, 2) {
		for _, signed := range []bool{true, false} {
			for _, n := range []api.Notes{example(), not, trial.Noted()} {
				if n, e := note.Settle(n, number, signed); len(n.Notes) > 0 || len(n.Register.Issues) > 0 || e != api.ErrNone {
					t.Error(number, n, e)
				}
			}
		}
	}
}

// P3.4: notes that matter just if others are signed, or not.
func TestMattersTogether(t *testing.T) {
	k := uint8(api.KnownOpen)
	for name, x := range map[string]struct {
		list []api.Note
		want []int
	}{
		"either one":             {[]api.Note{trial.As(k, trial.Gives(2, 0, 30, 2, 1, 9)), trial.As(k, trial.Gives(1, 1, 30, 2, 1, 9))}, []int{1, 2}},
		"hidden by a signed one": {[]api.Note{trial.As(k, trial.Gives(1, 0, 30, 2, 1, 9)), trial.Gives(2, 0, 30, 2, 1, 9)}, nil},
		"hidden by an open one":  {[]api.Note{trial.As(k, trial.Gives(1, 0, 30, 2, 1, 9)), trial.As(k, trial.Gives(2, 0, 30, 1, 1, 9))}, []int{1, 2}},
		"A alone":                {[]api.Note{trial.As(k, trial.Gives(1, 0, 30, 1, 1, 9))}, nil},
		"cancels what is":        {[]api.Note{trial.Gives(1, 0, 30, 2, 1, 9), trial.As(k, trial.Cancels(2, 0, 1, 5, 5))}, []int{2}},
		"cancels elsewhere":      {[]api.Note{trial.Gives(1, 0, 30, 2, 1, 9), trial.As(k, trial.Cancels(2, 0, 1, 6, 9))}, nil},
		"cancels what is not":    {[]api.Note{trial.As(api.KnownNo, trial.Gives(1, 0, 30, 2, 1, 9)), trial.As(k, trial.Cancels(2, 0, 1, 1, 9))}, nil},
		"cancelled":              {[]api.Note{trial.As(k, trial.Gives(1, 0, 30, 2, 1, 9)), trial.Cancels(2, 0, 1, 1, 9)}, nil},
		"cancelled, perhaps":     {[]api.Note{trial.As(k, trial.Gives(1, 0, 30, 2, 1, 9)), trial.As(k, trial.Cancels(2, 0, 1, 1, 9))}, []int{1, 2}},
		"far away":               {[]api.Note{trial.As(k, trial.Gives(1, 0, 30, 2, 6, 9)), trial.As(k, trial.Gives(2, 0, 30, 2, 1, 4))}, nil},
		"not open":               {[]api.Note{trial.Gives(1, 0, 30, 2, 1, 9), trial.As(api.KnownNo, trial.Gives(2, 0, 30, 1, 1, 9))}, nil},
		"by days":                {[]api.Note{trial.As(k, trial.Gives(7, 0, 10, 2, 1, 9)), trial.As(k, trial.Gives(3, 1, 30, 2, 1, 9)), trial.As(k, trial.Gives(5, 2, 30, 1, 1, 9))}, []int{3, 5, 7}},
	} {
		if l, e := note.Matters(trial.Noted(x.list...), 5); !slices.Equal(l, x.want) || e != api.OK {
			t.Error(name, l, e)
		}
	}
}

// P3.4, P3.8, P3.14: in each truth letters are possible, each possible one comes about, and just open notes matter.
func TestPossible(t *testing.T) {
	rnd := rand.New(rand.NewSource(37))
	several, matter := 0, 0
	for range 600 {
		n := trial.SomeNotes(rnd)
		m := trial.MachinesOf(n)[rnd.Intn(len(trial.MachinesOf(n)))]
		sure, e := note.Sure(n, m)
		if e != api.OK {
			t.Fatal(n, m, e)
		}
		for i, d := range trial.DrawingsOf(n) {
			want := map[int]bool{}
			for _, signed := range trial.TruthsOf(n) {
				letters, e := note.Letters(n, signed, m)
				if e != api.OK || letters[i] != lettersOf(n, signed, m)[i] {
					t.Fatal(n, signed, m, letters, e)
				}
				want[letters[i]] = true
			}
			l, e := note.Possible(n, d, m)
			if e != api.OK || len(l) != len(want) || !slices.IsSorted(l) || slices.ContainsFunc(l, func(letter int) bool { return !want[letter] }) {
				t.Fatal(n, d, m, l, e, want)
			}
			if len(l) == 1 && sure[i] != l[0] || len(l) > 1 && sure[i] != 0 {
				t.Fatal(n, d, m, l, sure)
			}
			if len(l) > 1 {
				several++
			}
		}
		want := mattering(n, m)
		if l, e := note.Matters(n, m); !slices.Equal(l, want) || e != api.OK {
			t.Fatal(n, m, l, e, want)
		}
		matter += len(want)
	}
	if several < 100 || matter < 100 {
		t.Error("few letters are open:", several, matter)
	}
}

// mattering returns the open notes that matter for a machine, by all pairs of truths.
func mattering(n api.Notes, machine int) []int {
	var l []int
	for _, number := range trial.OpenOf(n) {
		for _, signed := range trial.TruthsOf(n) {
			with := append(slices.Clone(signed), number)
			slices.Sort(with)
			if !slices.Contains(signed, number) && !slices.Contains(l, number) && !slices.Equal(lettersOf(n, signed, machine), lettersOf(n, with, machine)) {
				l = append(l, number)
			}
		}
	}
	return l
}

// possibleOf returns a text of all letters that are possible for a machine.
func possibleOf(t *testing.T, n api.Notes, machine int) string {
	t.Helper()
	s := ""
	for _, d := range trial.DrawingsOf(n) {
		l, e := note.Possible(n, d, machine)
		if e != api.OK {
			t.Fatal(n, d, machine, e)
		}
		s += fmt.Sprint(d, l)
	}
	return s
}

// P3.7, P3.8, P3.14: a note that is settled leaves no more letters possible, and either way together all; one that does not matter leaves all of them.
func TestSettle(t *testing.T) {
	rnd := rand.New(rand.NewSource(38))
	fewer, idle := 0, 0
	for range 300 {
		n := trial.SomeNotes(rnd)
		m := trial.MachinesOf(n)[rnd.Intn(len(trial.MachinesOf(n)))]
		matters, _ := note.Matters(n, m)
		before := text(n)
		for _, number := range trial.OpenOf(n) {
			yes, e := note.Settle(n, number, true)
			no, f := note.Settle(n, number, false)
			at := slices.IndexFunc(n.Notes, func(x api.Note) bool { return x.Number == number })
			want := trial.CloneNotes(n)
			want.Notes[at].Signed = api.KnownYes
			other := trial.CloneNotes(n)
			other.Notes[at].Signed = api.KnownNo
			if e != api.OK || f != api.OK || text(yes) != text(want) || text(no) != text(other) || text(n) != before {
				t.Fatal(n, number, yes, no, e, f)
			}
			if !slices.Contains(matters, number) {
				idle++
				if all := possibleOf(t, n, m); possibleOf(t, yes, m) != all || possibleOf(t, no, m) != all {
					t.Fatal(n, number, m, all)
				}
			}
			for _, d := range trial.DrawingsOf(n) {
				all, _ := note.Possible(n, d, m)
				some, _ := note.Possible(yes, d, m)
				others, _ := note.Possible(no, d, m)
				both := slices.Concat(some, others)
				slices.Sort(both)
				if !slices.Equal(slices.Compact(both), all) {
					t.Fatal(n, number, d, m, all, some, others)
				}
				if len(some) < len(all) || len(others) < len(all) {
					fewer++
				}
			}
		}
	}
	if fewer < 50 || idle < 50 {
		t.Error("few notes that matter, or do not:", fewer, idle)
	}
}

// P3.14: without open notes all is sure, and nothing matters.
func TestAllSettled(t *testing.T) {
	rnd := rand.New(rand.NewSource(39))
	for range 100 {
		n := trial.SomeNotes(rnd)
		for _, number := range trial.OpenOf(n) {
			n, _ = note.Settle(n, number, rnd.Intn(2) == 0)
		}
		for _, m := range trial.MachinesOf(n) {
			letters, _ := note.Letters(n, nil, m)
			if sure, e := note.Sure(n, m); !slices.Equal(sure, letters) || e != api.OK {
				t.Fatal(n, m, sure, letters, e)
			}
			if l, e := note.Matters(n, m); len(l) > 0 || e != api.OK {
				t.Fatal(n, m, l, e)
			}
		}
	}
}
