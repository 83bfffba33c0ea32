package note_test

import (
	"math/rand"
	"slices"
	"testing"

	"blueline/api"
	"blueline/note"
	"blueline/sheet"
	"blueline/trial"
)

// P3.2: the examples.
func TestForceExamples(t *testing.T) {
	n := example()
	signed := []int{102}
	for _, x := range []struct {
		signed  []int
		machine int
		force   []int
		letters []int
	}{
		{nil, 11, []int{103}, []int{1, 1, 1, 1, 1}}, {nil, 15, []int{101, 104}, []int{1, 1, 1, 1, 1}}, {nil, 9, []int{101}, []int{1, 1, 2, 1, 1}}, {signed, 9, []int{101, 102}, []int{2, 1, 2, 1, 1}},
		{nil, 4, nil, []int{1, 1, 1, 1, 1}}, {nil, 5, []int{101}, []int{1, 1, 2, 1, 1}}, {nil, 10, []int{103}, []int{1, 1, 1, 1, 1}}, {nil, 12, []int{103}, []int{1, 1, 1, 1, 1}}, {nil, 13, []int{101}, []int{1, 1, 2, 1, 1}}, {nil, 14, []int{101}, []int{1, 1, 2, 1, 1}}, {nil, 16, []int{101}, []int{1, 1, 2, 1, 1}}, {nil, 999, []int{101}, []int{1, 1, 2, 1, 1}},
		{signed, 7, []int{101}, []int{1, 1, 2, 1, 1}}, {signed, 8, []int{101, 102}, []int{2, 1, 2, 1, 1}}, {signed, 15, []int{101, 102, 104}, []int{2, 1, 1, 1, 1}}, {signed, 20, []int{101, 102}, []int{2, 1, 2, 1, 1}}, {signed, 21, []int{101}, []int{1, 1, 2, 1, 1}}, {signed, 1, nil, []int{1, 1, 1, 1, 1}},
	} {
		if l, e := note.Force(n, x.signed, x.machine); !slices.Equal(l, x.force) || e != api.OK {
			t.Error(x, l, e)
		}
		if l, e := note.Letters(n, x.signed, x.machine); !slices.Equal(l, x.letters) || e != api.OK {
			t.Error(x, l, e)
		}
	}
	for _, x := range []struct{ drawing, machine, by int }{{30, 9, 101}, {30, 11, 0}, {30, 15, 104}, {10, 9, 0}, {40, 9, 0}, {30, 4, 0}, {30, 999, 101}} {
		if by, e := note.By(n, nil, x.drawing, x.machine); by != x.by || e != api.OK {
			t.Error(x, by, e)
		}
	}
	if by, e := note.By(n, signed, 10, 9); by != 102 || e != api.OK {
		t.Error(by, e)
	}
}

// P3.3: the examples, and a letter that no machine has, or no drawing.
func TestStretchesExamples(t *testing.T) {
	n := example()
	for _, x := range []struct {
		signed  []int
		drawing int
		want    []api.Stretch
	}{
		{nil, 30, []api.Stretch{{From: 1, To: 4, Letter: 1}, {From: 5, To: 9, Letter: 2}, {From: 10, To: 12, Letter: 1}, {From: 13, To: 14, Letter: 2}, {From: 15, To: 15, Letter: 1}, {From: 16, To: 999, Letter: 2}}},
		{nil, 10, []api.Stretch{{From: 1, To: 999, Letter: 1}}}, {[]int{102}, 50, []api.Stretch{{From: 1, To: 999, Letter: 1}}},
		{[]int{102}, 10, []api.Stretch{{From: 1, To: 7, Letter: 1}, {From: 8, To: 20, Letter: 2}, {From: 21, To: 999, Letter: 1}}},
	} {
		if l, e := note.Stretches(n, x.signed, x.drawing); !slices.Equal(l, x.want) || e != api.OK {
			t.Error(x, l, e)
		}
	}
	for _, x := range []struct {
		signed []int
		issue  api.Ref
		want   int
		e      api.Errno
	}{
		{nil, api.Ref{Drawing: 30, Letter: 2}, 5, api.OK}, {nil, api.Ref{Drawing: 10, Letter: 2}, 0, api.ErrNone}, {[]int{102}, api.Ref{Drawing: 10, Letter: 2}, 8, api.OK}, {nil, api.Ref{Drawing: 30, Letter: 1}, 1, api.OK},
		{nil, api.Ref{Drawing: 30, Letter: 3}, 0, api.ErrNone}, {nil, api.Ref{Drawing: 50, Letter: 2}, 0, api.ErrNone}, {nil, api.Ref{Drawing: 35, Letter: 1}, 0, api.ErrNone}, {nil, api.Ref{}, 0, api.ErrNone}, {nil, api.Ref{Drawing: 30}, 0, api.ErrNone},
	} {
		if m, e := note.First(n, x.signed, x.issue); m != x.want || e != x.e {
			t.Error(x, m, e)
		}
	}
	for _, far := range trial.Far() {
		if m, e := note.First(n, nil, api.Ref{Drawing: 30, Letter: far}); m != 0 || e != api.ErrNone {
			t.Error(far, m, e)
		}
	}
	all := trial.Noted(trial.Gives(1, 0, 30, 2, 1, 999), trial.Gives(2, 0, 30, 2, 5, 7), trial.Cancels(3, 0, 2, 6, 6))
	if l, e := note.Stretches(all, nil, 30); !slices.Equal(l, []api.Stretch{{From: 1, To: 999, Letter: 2}}) || e != api.OK {
		t.Error(l, e)
	}
	if m, e := note.First(all, nil, api.Ref{Drawing: 30, Letter: 1}); m != 0 || e != api.ErrNone {
		t.Error(m, e)
	}
	ends := trial.Noted(trial.Gives(1, 0, 30, 2, 2, 998))
	if l, e := note.Stretches(ends, nil, 30); !slices.Equal(l, []api.Stretch{{From: 1, To: 1, Letter: 1}, {From: 2, To: 998, Letter: 2}, {From: 999, To: 999, Letter: 1}}) || e != api.OK {
		t.Error(l, e)
	}
	last := trial.Noted(trial.Gives(1, 0, 30, 2, 999, 999))
	if m, e := note.First(last, nil, api.Ref{Drawing: 30, Letter: 2}); m != 999 || e != api.OK {
		t.Error(m, e)
	}
}

// P3.2: notes that cancel notes that cancel: for some machines, signed or not.
func TestCancelled(t *testing.T) {
	n := trial.Noted(
		trial.Gives(9, 0, 30, 2, 1, 100), trial.Cancels(8, 1, 9, 10, 50), trial.Cancels(7, 2, 8, 20, 40), trial.Cancels(6, 3, 7, 30, 35),
		trial.As(api.KnownOpen, trial.Cancels(5, 4, 6, 31, 32)), trial.As(api.KnownNo, trial.Cancels(4, 5, 9, 1, 100)), trial.Cancels(3, 6, 8, 50, 60), trial.Cancels(2, 7, 4, 1, 999))
	for _, x := range []struct {
		machine       int
		force, signed []int
	}{
		{1, []int{9, 2}, []int{9, 2}}, {9, []int{9, 2}, []int{9, 2}}, {10, []int{8, 2}, []int{8, 2}}, {19, []int{8, 2}, []int{8, 2}}, {20, []int{9, 7, 2}, []int{9, 7, 2}}, {29, []int{9, 7, 2}, []int{9, 7, 2}},
		{30, []int{8, 6, 2}, []int{8, 6, 2}}, {31, []int{8, 6, 2}, []int{9, 7, 5, 2}}, {32, []int{8, 6, 2}, []int{9, 7, 5, 2}}, {33, []int{8, 6, 2}, []int{8, 6, 2}}, {36, []int{9, 7, 2}, []int{9, 7, 2}}, {41, []int{8, 2}, []int{8, 2}},
		{50, []int{9, 3, 2}, []int{9, 3, 2}}, {60, []int{9, 3, 2}, []int{9, 3, 2}}, {61, []int{9, 2}, []int{9, 2}}, {100, []int{9, 2}, []int{9, 2}}, {101, []int{2}, []int{2}}, {999, []int{2}, []int{2}},
	} {
		for signed, want := range map[int][]int{0: x.force, 5: x.signed} {
			var truth []int
			if signed > 0 {
				truth = []int{signed}
			}
			if l, e := note.Force(n, truth, x.machine); !slices.Equal(l, want) || e != api.OK {
				t.Error(x.machine, truth, l, e, "and not", want)
			}
		}
	}
}

// P3.2, P3.9: any notes are in force as the chapter says it, and letters are by the last ones of them.
func TestForce(t *testing.T) {
	rnd := rand.New(rand.NewSource(32))
	given := 0
	for range 400 {
		n := trial.SomeNotes(rnd)
		signed := trial.SomeTruth(rnd, n)
		for _, m := range trial.MachinesOf(n) {
			var want []int
			for i, in := range forceOf(n.Notes, isSigned(n, signed), m) {
				if in {
					want = append(want, n.Notes[i].Number)
				}
			}
			force, e := note.Force(n, signed, m)
			if !slices.Equal(force, want) || e != api.OK {
				t.Fatal(n, signed, m, force, e, want)
			}
			letters, e := note.Letters(n, signed, m)
			if e != api.OK {
				t.Fatal(n, signed, m, e)
			}
			given += byLastNote(t, n, signed, m, force, letters)
		}
	}
	if given < 1000 {
		t.Error("few letters by a note:", given)
	}
}

// byLastNote checks that drawings have their letters by the last notes in force, and returns how many have them by one.
func byLastNote(t *testing.T, n api.Notes, signed []int, machine int, force, letters []int) int {
	t.Helper()
	given := 0
	for i, d := range trial.DrawingsOf(n) {
		by, e := note.By(n, signed, d, machine)
		letter, want := letterOf(n, signed, d, machine)
		if by != want || letters[i] != letter || e != api.OK {
			t.Fatal(n, signed, d, machine, by, letters, e, want, letter)
		}
		at := slices.IndexFunc(n.Notes, func(x api.Note) bool { return x.Number == by })
		if by == 0 && letter != 1 || by != 0 && (n.Notes[at].Letter != letter || n.Notes[at].Drawing != d || !slices.Contains(force, by)) {
			t.Fatal(n, signed, d, machine, by, letter)
		}
		for _, x := range n.Notes[at+1:] {
			if x.Drawing == d && slices.Contains(force, x.Number) {
				t.Fatal("a later note:", n, signed, d, machine, by, x)
			}
		}
		if by != 0 {
			given++
		}
	}
	return given
}

// P3.9: without notes, or with none that is signed, all letters are A.
func TestWithoutNotes(t *testing.T) {
	rnd := rand.New(rand.NewSource(33))
	for range 200 {
		n := trial.SomeNotes(rnd)
		for i := range n.Notes {
			n.Notes[i].Signed = api.KnownNo
		}
		for _, n := range []api.Notes{n, {Register: n.Register}} {
			for _, m := range trial.MachinesOf(n) {
				letters, e := note.Letters(n, nil, m)
				if slices.Max(letters) != 1 || len(letters) != len(trial.DrawingsOf(n)) || e != api.OK {
					t.Fatal(n, m, letters, e)
				}
			}
			for _, d := range trial.DrawingsOf(n) {
				if l, e := note.Stretches(n, nil, d); !slices.Equal(l, []api.Stretch{{From: 1, To: 999, Letter: 1}}) || e != api.OK {
					t.Fatal(n, d, l, e)
				}
			}
		}
	}
}

// P3.3, P3.10: stretches are all machines, each once, with other letters next to each other; the first one with a letter begins where First tells.
func TestStretches(t *testing.T) {
	rnd := rand.New(rand.NewSource(34))
	many := 0
	for range 60 {
		n := trial.SomeNotes(rnd)
		signed := trial.SomeTruth(rnd, n)
		for _, d := range trial.DrawingsOf(n) {
			var want []api.Stretch
			first := map[int]int{}
			for m := 1; m <= api.MaxMachine; m++ {
				letter, _ := letterOf(n, signed, d, m)
				if first[letter] == 0 {
					first[letter] = m
				}
				if k := len(want) - 1; k >= 0 && want[k].Letter == letter {
					want[k].To = m
				} else {
					want = append(want, api.Stretch{From: m, To: m, Letter: letter})
				}
			}
			if l, e := note.Stretches(n, signed, d); !slices.Equal(l, want) || e != api.OK {
				t.Fatal(n, signed, d, l, e, want)
			}
			for letter := range api.MaxLetter + 2 {
				e := api.OK
				if first[letter] == 0 {
					e = api.ErrNone
				}
				if m, f := note.First(n, signed, api.Ref{Drawing: d, Letter: letter}); m != first[letter] || f != e {
					t.Fatal(n, signed, d, letter, m, f)
				}
			}
			if len(want) > 3 {
				many++
			}
		}
	}
	if many < 20 {
		t.Error("few drawings of several stretches:", many)
	}
}

// P3.12: for machines for which a note is cancelled it is as if it were not signed, for others as if nothing cancelled it.
func TestAsIfNotSigned(t *testing.T) {
	rnd := rand.New(rand.NewSource(35))
	cancelled, wholly := 0, 0
	for range 1500 {
		n := trial.SomeNotes(rnd)
		signed := trial.SomeTruth(rnd, n)
		is := isSigned(n, signed)
		for i, x := range n.Notes {
			at := slices.IndexFunc(n.Notes, func(y api.Note) bool { return y.Number == x.Cancels })
			if x.Cancels == 0 || !is[x.Number] || !is[x.Cancels] {
				continue
			}
			without, alone := trial.CloneNotes(n), trial.CloneNotes(n)
			without.Notes[at].Signed = api.KnownNo
			alone.Notes[i].Cancels = 0
			if x.Drawing == 0 {
				alone.Notes[i].Signed, alone.Notes[i].Cancels = api.KnownNo, x.Cancels
			}
			whole := n.Notes[at].From >= x.From && n.Notes[at].To <= x.To
			for _, m := range trial.MachinesOf(n) {
				letters, e := note.Letters(n, signed, m)
				other := alone
				if forceOf(n.Notes, is, m)[i] {
					other = without
					cancelled++
				} else {
					whole = whole && (m < n.Notes[at].From || m > n.Notes[at].To)
				}
				if l, f := note.Letters(other, trimmed(other, signed), m); !slices.Equal(l, letters) || e != api.OK || f != api.OK {
					t.Fatal(n, signed, x, m, letters, l, e, f)
				}
			}
			if whole {
				wholly++
				sameLetters(t, n, without, signed)
			}
		}
	}
	if cancelled < 500 || wholly < 50 {
		t.Error("few cancelled notes:", cancelled, wholly)
	}
}

// trimmed returns a truth without the notes that are not open.
func trimmed(n api.Notes, signed []int) []int {
	return slices.DeleteFunc(slices.Clone(signed), func(number int) bool { return !slices.Contains(trial.OpenOf(n), number) })
}

// sameLetters checks that without a note that is cancelled for all of its machines all letters of all of them are the same.
func sameLetters(t *testing.T, n, without api.Notes, signed []int) {
	t.Helper()
	for _, d := range trial.DrawingsOf(n) {
		l, e := note.Stretches(n, signed, d)
		k, f := note.Stretches(without, trimmed(without, signed), d)
		if !slices.Equal(l, k) || e != api.OK || f != api.OK {
			t.Fatal(n, without, signed, d, l, k, e, f)
		}
	}
}

// P3.13: with letters trees can be made, and two machines have other parts only if some drawing of the tree has another letter.
func TestTreesCanBeMade(t *testing.T) {
	rnd := rand.New(rand.NewSource(36))
	others, same := 0, 0
	for range 300 {
		n := trial.SomeNotes(rnd)
		signed := trial.SomeTruth(rnd, n)
		machines := trial.MachinesOf(n)
		a, b := machines[rnd.Intn(len(machines))], machines[rnd.Intn(len(machines))]
		x, _ := note.Letters(n, signed, a)
		y, _ := note.Letters(n, signed, b)
		for _, d := range trial.DrawingsOf(n) {
			parts, e := sheet.Explode(n.Register, x, d)
			again, f := sheet.Explode(n.Register, y, d)
			tree, g := sheet.Tree(n.Register, x, d)
			if e != api.OK || f != api.OK || g != api.OK {
				t.Fatal(n, signed, a, b, d, e, f, g)
			}
			if slices.Equal(parts, again) {
				same++
				continue
			}
			others++
			if !slices.ContainsFunc(tree, func(at api.Branch) bool {
				letter, _ := letterOf(n, signed, at.Drawing, b)
				return at.Letter != letter
			}) {
				t.Fatal(n, signed, a, b, d, parts, again)
			}
		}
	}
	if others < 30 || same < 30 {
		t.Error("few drawings of a kind:", others, same)
	}
}
