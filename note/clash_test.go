package note_test

import (
	"math/rand"
	"slices"
	"testing"

	"blueline/api"
	"blueline/note"
	"blueline/trial"
)

// P3.5, P3.6: the examples.
func TestClashExamples(t *testing.T) {
	n := example()
	for _, signed := range [][]int{nil, {102}} {
		if l, e := note.Clash(n, signed); !slices.Equal(l, [][2]int{{101, 104}}) || e != api.OK {
			t.Error(l, e)
		}
		if l, e := note.Withdraw(n, signed); !slices.Equal(l, []int{101}) || e != api.OK {
			t.Error(l, e)
		}
	}
	n.Notes[3].Signed = api.KnownNo
	if l, e := note.Clash(n, nil); len(l) > 0 || e != api.OK {
		t.Error(l, e)
	}
	if l, e := note.Withdraw(n, nil); len(l) > 0 || e != api.OK {
		t.Error(l, e)
	}
}

// P3.5, P3.6: which notes contradict each other, and which have to go.
func TestClashKinds(t *testing.T) {
	k := uint8(api.KnownOpen)
	for name, x := range map[string]struct {
		list   []api.Note
		signed []int
		pairs  [][2]int
		gone   []int
	}{
		"the same letter":       {[]api.Note{trial.Gives(1, 0, 30, 2, 1, 9), trial.Gives(2, 0, 30, 2, 1, 9)}, nil, nil, nil},
		"a greater letter":      {[]api.Note{trial.Gives(1, 0, 30, 1, 1, 9), trial.Gives(2, 0, 30, 2, 1, 9)}, nil, nil, nil},
		"a lesser letter":       {[]api.Note{trial.Gives(1, 0, 30, 2, 1, 9), trial.Gives(2, 0, 30, 1, 9, 9)}, nil, [][2]int{{1, 2}}, []int{1}},
		"other machines":        {[]api.Note{trial.Gives(1, 0, 30, 2, 1, 9), trial.Gives(2, 0, 30, 1, 10, 99)}, nil, nil, nil},
		"other drawings":        {[]api.Note{trial.Gives(1, 0, 30, 2, 1, 9), trial.Gives(2, 0, 10, 1, 1, 9)}, nil, nil, nil},
		"the lesser Number":     {[]api.Note{trial.Gives(2, 0, 30, 2, 1, 9), trial.Gives(1, 1, 30, 1, 1, 9)}, nil, [][2]int{{2, 1}}, []int{1}},
		"not signed":            {[]api.Note{trial.Gives(1, 0, 30, 2, 1, 9), trial.As(api.KnownNo, trial.Gives(2, 0, 30, 1, 1, 9))}, nil, nil, nil},
		"open":                  {[]api.Note{trial.Gives(1, 0, 30, 2, 1, 9), trial.As(k, trial.Gives(2, 0, 30, 1, 1, 9))}, nil, nil, nil},
		"open, signed":          {[]api.Note{trial.Gives(1, 0, 30, 2, 1, 9), trial.As(k, trial.Gives(2, 0, 30, 1, 1, 9))}, []int{2}, [][2]int{{1, 2}}, []int{1}},
		"cancelled":             {[]api.Note{trial.Gives(1, 0, 30, 2, 1, 9), trial.Gives(2, 0, 30, 1, 5, 5), trial.Cancels(3, 0, 1, 5, 6)}, nil, nil, nil},
		"cancelled in part":     {[]api.Note{trial.Gives(1, 0, 30, 2, 1, 9), trial.Gives(2, 0, 30, 1, 5, 6), trial.Cancels(3, 0, 1, 6, 6)}, nil, [][2]int{{1, 2}}, []int{1}},
		"cancelled by it":       {[]api.Note{trial.Gives(1, 0, 30, 2, 1, 9), {Number: 2, Signed: api.KnownYes, Drawing: 30, Letter: 1, From: 5, To: 6, Cancels: 1}}, nil, nil, nil},
		"cancelled, not then":   {[]api.Note{trial.Gives(1, 0, 30, 2, 1, 9), trial.Cancels(2, 0, 1, 1, 9), trial.Gives(3, 0, 30, 1, 5, 6), trial.Cancels(4, 0, 2, 6, 9)}, nil, [][2]int{{1, 3}}, []int{1}},
		"cancelled, or freed":   {[]api.Note{trial.Gives(5, 0, 30, 2, 1, 9), trial.Cancels(7, 1, 5, 1, 9), trial.Gives(9, 2, 30, 1, 5, 6), trial.Cancels(4, 3, 7, 1, 9)}, nil, [][2]int{{5, 9}}, []int{4}},
		"freed for some":        {[]api.Note{trial.Gives(5, 0, 30, 2, 1, 9), trial.Cancels(7, 1, 5, 1, 5), trial.Gives(9, 2, 30, 1, 5, 6), trial.Cancels(4, 3, 7, 1, 9)}, nil, [][2]int{{5, 9}}, []int{5}},
		"one against two":       {[]api.Note{trial.Gives(1, 0, 30, 2, 1, 5), trial.Gives(2, 0, 30, 2, 6, 9), trial.Gives(3, 0, 30, 1, 5, 6)}, nil, [][2]int{{1, 3}, {2, 3}}, []int{3}},
		"two against one":       {[]api.Note{trial.Gives(1, 0, 30, 2, 1, 9), trial.Gives(2, 0, 30, 1, 5, 6), trial.Gives(3, 0, 30, 1, 5, 6)}, nil, [][2]int{{1, 2}, {1, 3}}, []int{1}},
		"two drawings":          {[]api.Note{trial.Gives(1, 0, 30, 2, 1, 9), trial.Gives(2, 0, 10, 2, 1, 9), trial.Gives(3, 0, 30, 1, 5, 6), trial.Gives(4, 0, 10, 1, 9, 9)}, nil, [][2]int{{1, 3}, {2, 4}}, []int{1, 2}},
		"by days":               {[]api.Note{trial.Gives(9, 0, 30, 2, 1, 9), trial.Gives(8, 1, 10, 2, 1, 9), trial.Gives(7, 2, 30, 1, 5, 6), trial.Gives(6, 3, 10, 1, 9, 9)}, nil, [][2]int{{9, 7}, {8, 6}}, []int{6, 7}},
		"far apart":             {[]api.Note{trial.Gives(1, 0, 30, 2, 1, 999), trial.Gives(2, 0, 30, 1, 999, 999)}, nil, [][2]int{{1, 2}}, []int{1}},
		"better none cancelled": {[]api.Note{trial.Gives(3, 0, 30, 2, 1, 9), trial.Gives(4, 0, 30, 1, 1, 9), {Number: 5, Signed: api.KnownYes, Drawing: 10, Letter: 2, From: 1, To: 9, Cancels: 4}, trial.Gives(6, 0, 10, 1, 9, 9)}, nil, [][2]int{{5, 6}}, []int{6}},
	} {
		n := trial.Noted(slices.SortedFunc(slices.Values(x.list), trial.InOrder)...)
		if l, e := note.Clash(n, x.signed); !slices.Equal(l, x.pairs) || e != api.OK {
			t.Error(name, l, e)
		}
		if l, e := note.Withdraw(n, x.signed); !slices.Equal(l, x.gone) || e != api.OK {
			t.Error(name, l, e)
		}
	}
}

// pairsOf returns all pairs of notes that contradict each other, pair by pair.
func pairsOf(l []api.Note, signed map[int]bool, machines []int) [][2]int {
	var pairs [][2]int
	var forces [][]bool
	for _, m := range machines {
		forces = append(forces, forceOf(l, signed, m))
	}
	for i, x := range l {
		for k, y := range l {
			both := slices.ContainsFunc(forces, func(in []bool) bool { return in[i] && in[k] })
			if i < k && x.Drawing == y.Drawing && x.Letter > y.Letter && both {
				pairs = append(pairs, [2]int{x.Number, y.Number})
			}
		}
	}
	return pairs
}

// P3.5: any notes contradict each other as the chapter says it.
func TestClash(t *testing.T) {
	rnd := rand.New(rand.NewSource(40))
	several := 0
	for range 1500 {
		n := trial.SomeNotes(rnd)
		signed := trial.SomeTruth(rnd, n)
		want := pairsOf(n.Notes, isSigned(n, signed), trial.MachinesOf(n))
		if l, e := note.Clash(n, signed); !slices.Equal(l, want) || e != api.OK {
			t.Fatal(n, signed, l, e, want)
		}
		if len(want) > 1 {
			several++
		}
	}
	if several < 200 {
		t.Error("few notes contradict each other:", several)
	}
}

// choices yields all lists of so many of some numbers, the first ones first.
func choices(of []int, count int, yield func([]int) bool) bool {
	if count == 0 {
		return yield(nil)
	}
	for i, n := range of {
		if !choices(of[i+1:], count-1, func(l []int) bool { return yield(append([]int{n}, l...)) }) {
			return false
		}
	}
	return true
}

// fewest returns the first of the shortest lists of notes without which none contradict each other: of all notes, list by list.
func fewest(n api.Notes, signed []int) []int {
	var numbers, found []int
	for _, x := range n.Notes {
		numbers = append(numbers, x.Number)
	}
	slices.Sort(numbers)
	machines := trial.MachinesOf(n)
	for count := range len(numbers) + 1 {
		if !choices(numbers, count, func(l []int) bool {
			is := isSigned(n, signed)
			for _, number := range l {
				is[number] = false
			}
			found = l
			return len(pairsOf(n.Notes, is, machines)) > 0
		}) {
			return found
		}
	}
	return nil
}

// P3.6, P3.11: without the notes that are withdrawn none contradict each other; without fewer, or as many others before them, some still do.
func TestWithdraw(t *testing.T) {
	rnd := rand.New(rand.NewSource(41))
	seen := map[int]int{}
	for range 400 {
		n := trial.SomeNotes(rnd)
		signed := trial.SomeTruth(rnd, n)
		want := fewest(n, signed)
		l, e := note.Withdraw(n, signed)
		if !slices.Equal(l, want) || e != api.OK {
			t.Fatal(n, signed, l, e, want)
		}
		without := trial.CloneNotes(n)
		for i, x := range n.Notes {
			if without.Notes[i].Signed = api.KnownNo; !slices.Contains(l, x.Number) && isSigned(n, signed)[x.Number] {
				without.Notes[i].Signed = api.KnownYes
			}
		}
		if l, e := note.Clash(without, nil); len(l) > 0 || e != api.OK {
			t.Fatal(n, signed, l, e)
		}
		seen[len(l)]++
	}
	if seen[0] < 20 || seen[1] < 20 || seen[2] < 20 || seen[3] == 0 {
		t.Error("few of a length:", seen)
	}
}

// P3.6: as many as can be have to go: of twelve notes of falling letters all but those of one letter.
func TestWithdrawMany(t *testing.T) {
	n := api.Notes{Register: trial.Lettered(7, 8)}
	for i := range api.MaxNotes {
		n.Notes = append(n.Notes, trial.Gives(100-i, i, 7, 8-i*2/3, 1, 999))
	}
	if l, e := note.Withdraw(n, nil); !slices.Equal(l, fewest(n, nil)) || len(l) != 10 || e != api.OK {
		t.Error(l, e)
	}
	if l, e := note.Clash(n, nil); !slices.Equal(l, pairsOf(n.Notes, isSigned(n, nil), []int{1})) || len(l) < 50 || e != api.OK {
		t.Error(l, e)
	}
}
