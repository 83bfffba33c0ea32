package swap_test

import (
	"math/rand"
	"slices"
	"testing"

	"blueline/api"
	"blueline/note"
	"blueline/sheet"
	"blueline/swap"
	"blueline/trial"
)

// pairsText is words that name pairs of a piece and a place.
func pairsText(l [][2]api.Ref) []string {
	var words []string
	for _, x := range l {
		words = append(words, issueText(x[0])+"-"+issueText(x[1]))
	}
	return words
}

// P5.6: the examples, also of days that are turned.
func TestLostExamples(t *testing.T) {
	other := ruled(rule(1, 1, "10A", "10B"), rule(2, 1, "50A", "30B"), breaking(1, rule(3, 2, "50A", "30B")), breaks(4, 3, 2), breaks(5, 4, 3))
	for i, x := range []struct {
		s        api.Swaps
		signed   []int
		machine  int
		from, to int
		want     []string
	}{
		{example(), nil, 9, 200, 300, []string{"40A-50A", "50A-30A", "50A-30B", "50A-40A"}},
		{example(), nil, 9, 300, 200, nil},
		{example(), nil, 9, 300, 100, nil},
		{example(), nil, 9, 300, 99, []string{"30B-30A", "40A-30A"}},
		{example(), nil, 9, 300, 0, []string{"30B-30A", "40A-30A", "40A-30B"}},
		{example(), nil, 11, 200, 300, []string{"30B-30A", "40A-30A", "40A-50A", "50A-30A", "50A-30B", "50A-40A"}},
		{example(), nil, 11, 300, 200, nil},
		{example(), nil, 9, 200, 200, nil},
		{example(), nil, 9, 0, api.MaxDay, nil},
		{example(), nil, 9, api.MaxDay, 0, []string{"30B-30A", "40A-30A", "40A-30B"}},
		{example(), nil, 4, 200, 300, []string{"40A-50A", "50A-30B", "50A-40A"}},
		// A step by another rule, and by a later one.
		{other, nil, 9, 1, 2, []string{"10A-10B"}},
		{other, nil, 9, 2, 3, nil},
		{other, nil, 9, 1, 4, []string{"50A-30B"}},
		{other, nil, 9, 2, 4, []string{"50A-30B"}},
		{other, nil, 9, 4, 1, nil},
		{other, nil, 9, 1, 0, []string{"10A-10B", "50A-30B"}},
		{open(), []int{104}, 11, 299, 310, []string{"40A-50A", "50A-30A", "50A-30B", "50A-40A"}},
		{open(), nil, 11, 200, 310, []string{"30B-30A", "40A-30A", "40A-50A", "50A-30A", "50A-30B", "50A-40A"}},
		{open(), []int{102}, 1, 320, 319, []string{"10A-10B"}},
		{ruled(), nil, 1, 3, 2, nil},
	} {
		if l, e := swap.Lost(x.s, x.signed, x.machine, x.from, x.to); !slices.Equal(pairsText(l), x.want) || e != api.OK {
			t.Error(i, pairsText(l), e)
		}
	}
}

// P5.6: what is lost is what the chapter tells, on whatever days.
func TestLost(t *testing.T) {
	rnd := rand.New(rand.NewSource(80))
	lost, kept := 0, 0
	for range 800 {
		s := someSwaps(rnd)
		at := someSpot(rnd, s)
		to := spot{at.signed, at.machine, rnd.Intn(6)}
		before, after := countsOf(s, at), countsOf(s, to)
		var want [][2]api.Ref
		for _, piece := range issuesOf(s) {
			for _, place := range issuesOf(s) {
				if before.may(piece, place) && !after.may(piece, place) {
					want = append(want, [2]api.Ref{piece, place})
				} else if before.may(piece, place) && piece != place {
					kept++
				}
			}
		}
		l, e := swap.Lost(s, at.signed, at.machine, at.day, to.day)
		if !slices.Equal(l, want) || e != api.OK {
			t.Fatal(s, at, to, pairsText(l), e, pairsText(want))
		}
		lost += len(l)
	}
	if lost < 500 || kept < 500 {
		t.Error("few of a kind:", lost, kept)
	}
}

// until returns swaps with their notes and rules of some days alone, up to the last one of these.
func until(s api.Swaps, last int) api.Swaps {
	s = clone(s)
	s.Rules = slices.DeleteFunc(s.Rules, func(x api.Rule) bool { return x.Day > last })
	s.Notes.Notes = slices.DeleteFunc(s.Notes.Notes, func(x api.Note) bool { return x.Day > last })
	return s
}

// P5.12: what is lost from one day to a later one is lost by rules, or notes, that came between them; on the same day nothing is lost.
func TestLostByWhatCame(t *testing.T) {
	rnd := rand.New(rand.NewSource(81))
	lost := 0
	for range 500 {
		s := someSwaps(rnd)
		at := someSpot(rnd, s)
		later := at.day + rnd.Intn(4)
		before := until(s, at.day)
		signed := slices.DeleteFunc(slices.Clone(at.signed), func(number int) bool { return !slices.Contains(trial.OpenOf(before.Notes), number) })
		l, e := swap.Lost(before, signed, at.machine, at.day, later)
		if len(l) > 0 || e != api.OK {
			t.Fatal(before, at, later, pairsText(l), e)
		}
		same, e := swap.Lost(s, at.signed, at.machine, later, later)
		if len(same) > 0 || e != api.OK {
			t.Fatal(s, at, later, pairsText(same), e)
		}
		l, e = swap.Lost(s, at.signed, at.machine, at.day, later)
		if len(l) > 0 && (e != api.OK || later == at.day) {
			t.Fatal(s, at, later, pairsText(l), e)
		}
		lost += len(l)
	}
	if lost < 100 {
		t.Error("few are lost:", lost)
	}
}

// P5.12: with a rule more that breaks none no less may be put.
func TestMoreRules(t *testing.T) {
	rnd := rand.New(rand.NewSource(82))
	more := 0
	for range 800 {
		s := someSwaps(rnd)
		issues := issuesOf(s)
		if len(s.Rules) == api.MaxRules || len(issues) < 2 {
			continue
		}
		at, two := someSpot(rnd, s), rnd.Perm(len(issues))
		with := clone(s)
		x := api.Rule{Number: 100 + rnd.Intn(9000), Day: rnd.Intn(6), From: issues[two[0]], To: issues[two[1]], Both: rnd.Intn(2) == 0}
		if slices.ContainsFunc(s.Rules, func(y api.Rule) bool { return x.Number == y.Number }) {
			continue
		}
		with.Rules = append(with.Rules, x)
		slices.SortFunc(with.Rules, ruleOrder)
		for _, place := range issues {
			before, e := swap.For(s, at.signed, at.machine, at.day, place)
			after, f := swap.For(with, at.signed, at.machine, at.day, place)
			if e != api.OK || f != api.OK {
				t.Fatal(with, at, place, e, f)
			}
			for _, piece := range before {
				if !slices.Contains(after, piece) {
					t.Fatal(s, at, piece, place, "not with", x)
				}
			}
			more += len(after) - len(before)
		}
	}
	if more < 200 {
		t.Error("few are more:", more)
	}
}

// P5.7: pieces that may be put in a place in all truths, in some, and in none.
func TestSureExamples(t *testing.T) {
	either := noted(maybe(letting(api.WayNew, trial.Gives(1, 1, 30, 2, 1, 9))), maybe(trial.Cancels(2, 2, 1, 1, 9)), maybe(letting(api.WayNew, trial.Gives(3, 2, 30, 2, 4, 9))))
	all := noted(maybe(trial.Gives(1, 1, 30, 1, 1, 9)), letting(api.WayOld, trial.Gives(2, 1, 30, 2, 1, 9)), maybe(trial.Cancels(3, 2, 2, 5, 9)), trial.Cancels(4, 3, 3, 6, 9))
	none := noted(maybe(letting(api.WayBoth, trial.Gives(1, 1, 30, 2, 1, 9))), trial.Cancels(2, 2, 1, 3, 3))
	for i, x := range []struct {
		s            api.Swaps
		machine, day int
		piece, place string
		want         uint8
	}{
		{example(), 9, 200, "50A", "30A", api.KnownYes},
		{example(), 9, 300, "50A", "30A", api.KnownNo},
		{open(), 11, 299, "30B", "30A", api.KnownYes},
		{open(), 11, 309, "30B", "30A", api.KnownNo},
		{open(), 11, 310, "30B", "30A", api.KnownOpen},
		{open(), 10, 310, "30B", "30A", api.KnownNo},
		{open(), 12, 310, "30B", "30A", api.KnownNo},
		{open(), 13, 310, "30B", "30A", api.KnownYes},
		{open(), 11, 310, "30A", "30B", api.KnownNo},
		{open(), 11, 310, "40A", "30A", api.KnownOpen},
		{open(), 11, 310, "40A", "30B", api.KnownYes},
		{open(), 11, 320, "10A", "10B", api.KnownOpen},
		{open(), 11, 319, "10A", "10B", api.KnownNo},
		{open(), 11, 320, "10B", "10A", api.KnownNo},
		{open(), 11, 320, "10B", "10B", api.KnownYes},
		{open(), 11, 0, "10A", "10A", api.KnownYes},
		{either, 5, 2, "30B", "30A", api.KnownOpen},
		{either, 3, 2, "30B", "30A", api.KnownOpen},
		{either, 10, 2, "30B", "30A", api.KnownNo},
		{all, 4, 3, "30A", "30B", api.KnownYes},
		{all, 5, 2, "30A", "30B", api.KnownOpen},
		{all, 5, 3, "30A", "30B", api.KnownOpen},
		{all, 6, 2, "30A", "30B", api.KnownOpen},
		{all, 6, 3, "30A", "30B", api.KnownYes},
		{none, 2, 2, "30A", "30B", api.KnownOpen},
		{none, 3, 1, "30A", "30B", api.KnownOpen},
		{none, 3, 2, "30A", "30B", api.KnownNo},
	} {
		if known, e := swap.Sure(x.s, x.machine, x.day, is(x.piece), is(x.place)); known != x.want || e != api.OK {
			t.Error(i, known, e)
		}
	}
}

// doubtful returns swaps in which steps by notes are for all machines, and as many of the notes as can be are open.
func doubtful(rnd *rand.Rand) api.Swaps {
	s := someSwaps(rnd)
	for i := range s.Notes.Notes {
		x := &s.Notes.Notes[i]
		if x.Letter < 2 {
			continue
		}
		x.From, x.To, x.Ways = 1, api.MaxMachine, uint8(1+rnd.Intn(api.WayBoth))
		if len(trial.OpenOf(s.Notes)) < api.MaxOpen {
			x.Signed = api.KnownOpen
		}
	}
	return s
}

// P5.7, P5.14: what is sure is so in each truth, and what is open is in some, and not in some others.
func TestSure(t *testing.T) {
	rnd := rand.New(rand.NewSource(83))
	seen := map[uint8]int{}
	for range 150 {
		s := doubtful(rnd)
		at := someSpot(rnd, s)
		issues, truths := issuesOf(s), trial.TruthsOf(s.Notes)
		may := map[[2]api.Ref]int{}
		for _, signed := range truths {
			for pair := range countsOf(s, spot{signed, at.machine, at.day}) {
				may[pair]++
			}
		}
		for _, piece := range issues {
			for _, place := range issues {
				want := uint8(api.KnownOpen)
				switch may[[2]api.Ref{piece, place}] {
				case len(truths):
					want = api.KnownYes
				case 0:
					want = api.KnownNo
				}
				known, e := swap.Sure(s, at.machine, at.day, piece, place)
				if known != want || e != api.OK {
					t.Fatal(s, at, piece, place, known, e, want)
				}
				if piece != place {
					seen[known]++
				}
			}
		}
	}
	if min(seen[api.KnownNo], seen[api.KnownOpen], seen[api.KnownYes]) < 200 {
		t.Error("few of a kind:", seen)
	}
}

// P5.14: with an open note that is settled no less is sure; what both ways of settling it leave as sure was so before.
func TestSettled(t *testing.T) {
	rnd := rand.New(rand.NewSource(84))
	more := 0
	for range 100 {
		s := doubtful(rnd)
		at, issues, open := someSpot(rnd, s), issuesOf(s), trial.OpenOf(s.Notes)
		if len(open) == 0 {
			continue
		}
		number := open[rnd.Intn(len(open))]
		yes, no := settled(t, s, number, true), settled(t, s, number, false)
		for range 20 {
			piece, place := issues[rnd.Intn(len(issues))], issues[rnd.Intn(len(issues))]
			before, e := swap.Sure(s, at.machine, at.day, piece, place)
			signed, f := swap.Sure(yes, at.machine, at.day, piece, place)
			not, g := swap.Sure(no, at.machine, at.day, piece, place)
			if e != api.OK || f != api.OK || g != api.OK {
				t.Fatal(s, at, piece, place, e, f, g)
			}
			if before != api.KnownOpen && (signed != before || not != before) || before == api.KnownOpen && signed == not && not != api.KnownOpen {
				t.Fatal(s, at, piece, place, number, before, signed, not)
			}
			if before != signed || before != not {
				more++
			}
		}
	}
	if more < 30 {
		t.Error("few are more sure:", more)
	}
}

// settled returns swaps with an open note that is signed, or not.
func settled(t *testing.T, s api.Swaps, number int, signed bool) api.Swaps {
	t.Helper()
	n, e := note.Settle(s.Notes, number, signed)
	if e != api.OK {
		t.Fatal(s, number, e)
	}
	return api.Swaps{Notes: n, Rules: s.Rules}
}

// P5.8: the examples, and letters by notes of later days.
func TestPlacesExamples(t *testing.T) {
	for i, x := range []struct {
		s       api.Swaps
		signed  []int
		machine int
		day     int
		want    []string
	}{
		{example(), nil, 9, 200, []string{"10A: 10A", "20A: 20A", "30B: 30B 40A 50A", "40A: 40A 50A", "50A: 40A 50A"}},
		{example(), nil, 4, 200, []string{"10A: 10A", "20A: 20A", "30A: 30A", "40A: 40A 50A", "50A: 40A 50A"}},
		{example(), nil, 9, 300, []string{"10A: 10A", "20A: 20A", "30B: 30B 40A", "40A: 40A", "50A: 50A"}},
		{example(), nil, 9, 49, []string{"10A: 10A", "20A: 20A", "30B: 30B", "40A: 40A", "50A: 50A"}},
		{example(), nil, 11, 200, []string{"10A: 10A", "20A: 20A", "30A: 30A 30B 40A 50A", "40A: 40A 50A", "50A: 40A 50A"}},
		{example(), nil, 11, 300, []string{"10A: 10A", "20A: 20A", "30A: 30A", "40A: 40A", "50A: 50A"}},
		{open(), []int{102, 104}, 11, 309, []string{"10B: 10B", "20A: 20A", "30B: 30B 40A", "40A: 40A", "50A: 50A"}},
		{open(), []int{102}, 11, 320, []string{"10B: 10A 10B", "20A: 20A", "30A: 30A", "40A: 40A", "50A: 50A"}},
		{open(), nil, 11, 320, []string{"10A: 10A", "20A: 20A", "30A: 30A", "40A: 40A", "50A: 50A"}},
		{valid()["one issue"], nil, 1, 0, []string{"9999A: 9999A"}},
	} {
		l, e := swap.Places(x.s, x.signed, x.machine, x.day)
		var words []string
		for _, p := range l {
			words = append(words, issueText(p.Issue)+": "+issuesText(p.May))
		}
		if !slices.Equal(words, x.want) || e != api.OK {
			t.Error(i, words, e)
		}
	}
}

// P5.8, P5.15: for each drawing its letter, by all notes, and what may be put there on the day; a machine's own pieces may.
func TestPlaces(t *testing.T) {
	rnd := rand.New(rand.NewSource(85))
	others, changes := 0, 0
	for range 1000 {
		s := someSwaps(rnd)
		at := someSpot(rnd, s)
		l, e := swap.Places(s, at.signed, at.machine, at.day)
		drawings, f := sheet.Drawings(s.Notes.Register)
		letters, g := note.Letters(s.Notes, at.signed, at.machine)
		if len(l) != len(drawings) || e != api.OK || f != api.OK || g != api.OK {
			t.Fatal(s, at, l, e, f, g)
		}
		for i, p := range l {
			own := api.Ref{Drawing: drawings[i], Letter: letters[i]}
			may, e := swap.For(s, at.signed, at.machine, at.day, own)
			if p.Issue != own || !slices.Equal(p.May, may) || e != api.OK || !slices.Contains(p.May, own) {
				t.Fatal(s, at, p, own, may, e)
			}
			if others += len(may) - 1; own.Letter > 1 {
				changes++
			}
		}
		if piece, e := swap.May(s, at.signed, at.machine, at.day, l[0].Issue, l[0].Issue); !piece || e != api.OK {
			t.Fatal(s, at, l[0], e)
		}
	}
	if others < 500 || changes < 300 {
		t.Error("few of a kind:", others, changes)
	}
}
