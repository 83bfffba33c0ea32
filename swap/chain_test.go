package swap_test

import (
	"math/rand"
	"slices"
	"testing"

	"blueline/api"
	"blueline/swap"
)

// P5.3: the examples, and chains between which a choice is made.
func TestChainExamples(t *testing.T) {
	day := func(n int) spot { return spot{nil, 9, n} }
	twoWays := ruled(rule(1, 1, "40A", "50A"), rule(2, 1, "10A", "30A"), rule(3, 1, "30A", "50A"), rule(4, 1, "10A", "40A"))
	late := ruled(rule(1, 1, "10A", "10B"), rule(2, 1, "10B", "20A"), rule(3, 1, "20A", "30A"), rule(4, 1, "30A", "50A"), rule(5, 1, "10A", "40A"), rule(6, 1, "40A", "50A"))
	note := example()
	note.Rules = append(note.Rules, rule(4, 300, "30B", "30A"))
	for i, x := range []struct {
		s            api.Swaps
		at           spot
		piece, place string
		want         string
		e            api.Errno
	}{
		{example(), day(200), "50A", "30A", "rule 2 50A-40A, rule 1 40A-30B, note 101 30B-30A", api.OK},
		{example(), day(300), "50A", "30A", "", api.ErrNone},
		{example(), day(300), "40A", "30A", "rule 1 40A-30B, note 101 30B-30A", api.OK},
		{example(), spot{nil, 11, 299}, "30B", "30A", "note 101 30B-30A", api.OK},
		{example(), spot{nil, 11, 300}, "30B", "30A", "", api.ErrNone},
		{example(), day(200), "30A", "30B", "", api.ErrNone},
		{example(), day(200), "30B", "40A", "", api.ErrNone},
		{example(), day(200), "40A", "50A", "rule 2 40A-50A", api.OK},
		{example(), day(99), "50A", "50A", "", api.OK},
		{example(), day(200), "50A", "50A", "", api.OK},
		{example(), day(200), "10A", "10B", "", api.ErrNone},
		// Of two steps the first one; a note's is before a rule's.
		{valid()["same again"], day(1), "10A", "30B", "rule 1 10A-30B", api.OK},
		{valid()["same again"], day(1), "30B", "10A", "rule 3 30B-10A", api.OK},
		{note, day(300), "30B", "30A", "note 101 30B-30A", api.OK},
		{note, spot{nil, 11, 300}, "30B", "30A", "rule 4 30B-30A", api.OK},
		// The first step in which they differ is before, though the second one is not; a shorter chain of later steps.
		{twoWays, day(1), "10A", "50A", "rule 2 10A-30A, rule 3 30A-50A", api.OK},
		{late, day(1), "10A", "50A", "rule 5 10A-40A, rule 6 40A-50A", api.OK},
		{late, day(1), "10A", "30A", "rule 1 10A-10B, rule 2 10B-20A, rule 3 20A-30A", api.OK},
		// A circle, in which a piece comes back to its own place.
		{ruled(rule(1, 1, "10A", "20A"), rule(2, 1, "20A", "30A"), rule(3, 1, "30A", "10A")), day(1), "20A", "10A", "rule 2 20A-30A, rule 3 30A-10A", api.OK},
		{ruled(rule(1, 1, "10A", "20A"), rule(2, 1, "20A", "30A"), rule(3, 1, "30A", "10A")), day(1), "20A", "20A", "", api.OK},
		{valid()["of a letter"], day(1), "7A", "7H", "rule 1 7A-7H", api.OK},
		{valid()["one issue"], day(1), "9999A", "9999A", "", api.OK},
	} {
		l, e := swap.Chain(x.s, x.at.signed, x.at.machine, x.at.day, is(x.piece), is(x.place))
		may, f := swap.May(x.s, x.at.signed, x.at.machine, x.at.day, is(x.piece), is(x.place))
		if stepsText(l) != x.want || e != x.e || may != (x.e == api.OK) || f != api.OK {
			t.Error(i, stepsText(l), e, may, f)
		}
	}
}

// P5.3, P5.4, P5.5: chains, and lists, that are as long as can be.
func TestLine(t *testing.T) {
	last := issuesOf(line(0, false))[28]
	for i, s := range []api.Swaps{line(api.WayOld, false), line(api.WayBoth, true)} {
		issues := issuesOf(s)
		chain, e := swap.Chain(s, nil, 1, 99, issues[0], last)
		pieces, f := swap.For(s, nil, 1, 99, last)
		places, g := swap.In(s, nil, 1, 99, issues[0])
		if len(chain) != 28 || e != api.OK || !slices.Equal(pieces, issues[:29]) || f != api.OK || !slices.Equal(places, issues[:29]) || g != api.OK {
			t.Error(i, stepsText(chain), e, issuesText(pieces), f, issuesText(places), g)
		}
		chain, e = swap.Chain(s, nil, 1, 99, last, issues[0])
		if len(chain) != 28*i || (e == api.ErrNone) != (i == 0) {
			t.Error(i, stepsText(chain), e)
		}
		classes, e := swap.Classes(s, nil, 1, 99)
		if len(classes) != i || i == 1 && !slices.Equal(classes[0], issues[:29]) || e != api.OK {
			t.Error(i, classes, e)
		}
	}
}

// firstChain returns the first chain of just so many steps from a piece to a place, and whether there is one; of steps that lead too far away none is tried.
func firstChain(steps []api.Step, m counts, piece, place api.Ref, count int) ([]api.Step, bool) {
	if count == 0 {
		return nil, piece == place
	}
	for _, x := range steps {
		n, may := m[[2]api.Ref{x.To, place}]
		if x.From != piece || !may || n > count-1 {
			continue
		}
		if l, found := firstChain(steps, m, x.To, place, count-1); found {
			return append([]api.Step{x}, l...), true
		}
	}
	return nil, false
}

// P5.3, P5.9, P5.10: a piece may be put in a place just if there is a chain of steps of the day; it is the first one of the shortest.
func TestChain(t *testing.T) {
	rnd := rand.New(rand.NewSource(75))
	long, choices := 0, 0
	for range 500 {
		s := someSwaps(rnd)
		at := someSpot(rnd, s)
		steps, m, issues := stepsOf(s, at), countsOf(s, at), issuesOf(s)
		for _, piece := range issues {
			for _, place := range issues {
				may, e := swap.May(s, at.signed, at.machine, at.day, piece, place)
				l, f := swap.Chain(s, at.signed, at.machine, at.day, piece, place)
				if may != m.may(piece, place) || e != api.OK {
					t.Fatal(s, at, piece, place, may, e)
				}
				if !may {
					if len(l) > 0 || f != api.ErrNone {
						t.Fatal(s, at, piece, place, stepsText(l), f)
					}
					continue
				}
				want, _ := firstChain(steps, m, piece, place, m[[2]api.Ref{piece, place}])
				if !slices.Equal(l, want) || f != api.OK {
					t.Fatal(s, at, piece, place, stepsText(l), f, stepsText(want))
				}
				if long += len(l) / 3; len(l) > 0 && hasChoice(steps, m, l) {
					choices++
				}
			}
		}
	}
	if long < 500 || choices < 500 {
		t.Error("few of a kind:", long, choices)
	}
}

// hasChoice reports whether somewhere on a chain another step would be as near to its end.
func hasChoice(steps []api.Step, m counts, chain []api.Step) bool {
	place := chain[len(chain)-1].To
	return slices.ContainsFunc(chain, func(x api.Step) bool {
		return slices.ContainsFunc(steps, func(y api.Step) bool {
			n, may := m[[2]api.Ref{y.To, place}]
			return may && y != x && y.From == x.From && n == m[[2]api.Ref{x.To, place}]
		})
	})
}

// P5.9, P5.10: a chain's steps are steps of the day, each one begins where the last one ends; none is by a rule that is broken.
func TestChainsAreChains(t *testing.T) {
	rnd := rand.New(rand.NewSource(76))
	for range 500 {
		s := someSwaps(rnd)
		at := someSpot(rnd, s)
		steps, e := swap.Steps(s, at.signed, at.machine, at.day)
		rules, f := swap.Rules(s, at.day)
		if e != api.OK || f != api.OK {
			t.Fatal(s, at, e, f)
		}
		issues := issuesOf(s)
		piece, place := issues[rnd.Intn(len(issues))], issues[rnd.Intn(len(issues))]
		chain, e := swap.Chain(s, at.signed, at.machine, at.day, piece, place)
		if e != api.OK {
			continue
		}
		here := piece
		for _, x := range chain {
			if x.From != here || !slices.Contains(steps, x) || !x.Note && !slices.Contains(rules, x.Number) {
				t.Fatal(s, at, stepsText(chain))
			}
			here = x.To
		}
		if here != place {
			t.Fatal(s, at, stepsText(chain), place)
		}
	}
}

// P5.4: the examples.
func TestForExamples(t *testing.T) {
	for i, x := range []struct {
		s        api.Swaps
		at       spot
		issue    string
		pieces   string
		inPlaces string
	}{
		{example(), spot{nil, 9, 200}, "30A", "30A 30B 40A 50A", "30A"},
		{example(), spot{nil, 9, 200}, "40A", "40A 50A", "30A 30B 40A 50A"},
		{example(), spot{nil, 9, 200}, "50A", "40A 50A", "30A 30B 40A 50A"},
		{example(), spot{nil, 9, 200}, "30B", "30B 40A 50A", "30A 30B"},
		{example(), spot{nil, 9, 300}, "30A", "30A 30B 40A", "30A"},
		{example(), spot{nil, 9, 300}, "50A", "50A", "50A"},
		{example(), spot{nil, 11, 300}, "40A", "40A", "30B 40A"},
		{example(), spot{nil, 9, 0}, "40A", "40A", "40A"},
		{example(), spot{nil, 9, 200}, "10B", "10B", "10B"},
		{open(), spot{[]int{102}, 9, 320}, "10B", "10A 10B", "10B"},
		{open(), spot{nil, 9, 320}, "10B", "10B", "10B"},
		{ruled(rule(1, 1, "50A", "10A"), rule(2, 1, "10B", "10A"), rule(3, 1, "20A", "50A")), spot{nil, 9, 1}, "10A", "10A 10B 20A 50A", "10A"},
		{ruled(rule(1, 1, "10A", "50A"), rule(2, 1, "10A", "10B"), rule(3, 1, "50A", "20A")), spot{nil, 9, 1}, "10A", "10A", "10A 10B 20A 50A"},
	} {
		pieces, e := swap.For(x.s, x.at.signed, x.at.machine, x.at.day, is(x.issue))
		places, f := swap.In(x.s, x.at.signed, x.at.machine, x.at.day, is(x.issue))
		if issuesText(pieces) != x.pieces || issuesText(places) != x.inPlaces || e != api.OK || f != api.OK {
			t.Error(i, issuesText(pieces), e, issuesText(places), f)
		}
	}
}

// P5.4, P5.11: all pieces that may be put in a place, and all places in which a piece may be put.
func TestForAndIn(t *testing.T) {
	rnd := rand.New(rand.NewSource(77))
	many := 0
	for range 800 {
		s := someSwaps(rnd)
		at := someSpot(rnd, s)
		m, issues := countsOf(s, at), issuesOf(s)
		for _, x := range issues {
			var wantFor, wantIn []api.Ref
			for _, y := range issues {
				if m.may(y, x) {
					wantFor = append(wantFor, y)
				}
				if m.may(x, y) {
					wantIn = append(wantIn, y)
				}
			}
			pieces, e := swap.For(s, at.signed, at.machine, at.day, x)
			places, f := swap.In(s, at.signed, at.machine, at.day, x)
			if !slices.Equal(pieces, wantFor) || !slices.Equal(places, wantIn) || e != api.OK || f != api.OK {
				t.Fatal(s, at, x, issuesText(pieces), e, issuesText(places), f)
			}
			if many += len(pieces) / 4; rnd.Intn(10) == 0 {
				checkOn(t, s, at, x, pieces)
			}
		}
	}
	if many < 200 {
		t.Error("few pieces:", many)
	}
}

// checkOn checks that what may be put in the place of a piece that may be put in a place may be put there.
func checkOn(t *testing.T, s api.Swaps, at spot, place api.Ref, pieces []api.Ref) {
	t.Helper()
	for _, x := range pieces {
		others, e := swap.For(s, at.signed, at.machine, at.day, x)
		if e != api.OK {
			t.Fatal(s, at, x, e)
		}
		for _, y := range others {
			if !slices.Contains(pieces, y) {
				t.Fatal(s, at, y, "for", x, "for", place)
			}
		}
	}
}

// P5.5: the examples.
func TestClassesExamples(t *testing.T) {
	ring := ruled(rule(1, 1, "50A", "10B"), rule(2, 1, "10B", "30A"), rule(3, 1, "30A", "50A"), both(4, 1, "40A", "20A"), rule(5, 1, "20A", "10B"), rule(6, 2, "30A", "40A"), breaks(7, 3, 2), breaks(8, 4, 5))
	for i, x := range []struct {
		s    api.Swaps
		at   spot
		want []string
	}{
		{example(), spot{nil, 9, 200}, []string{"40A 50A"}},
		{example(), spot{nil, 9, 300}, nil},
		{example(), spot{nil, 9, 149}, nil},
		{ring, spot{nil, 9, 1}, []string{"10B 30A 50A", "20A 40A"}},
		{ring, spot{nil, 9, 2}, []string{"10B 20A 30A 40A 50A"}},
		{ring, spot{nil, 9, 3}, []string{"20A 40A"}},
		{ring, spot{nil, 9, 0}, nil},
		{ruled(both(1, 1, "10B", "50A"), both(2, 1, "10A", "30B"), both(3, 1, "20A", "50A"), both(4, 1, "30A", "40A")), spot{nil, 9, 1}, []string{"10A 30B", "10B 20A 50A", "30A 40A"}},
		{ruled(both(1, 1, "20A", "30A"), both(2, 1, "10A", "50A"), rule(3, 1, "20A", "10A")), spot{nil, 9, 1}, []string{"10A 50A", "20A 30A"}},
		{ruled(), spot{nil, 9, 1}, nil},
	} {
		l, e := swap.Classes(x.s, x.at.signed, x.at.machine, x.at.day)
		var words []string
		for _, class := range l {
			words = append(words, issuesText(class))
		}
		if !slices.Equal(words, x.want) || e != api.OK {
			t.Error(i, words, e)
		}
	}
}

// P5.5, P5.11: issues are in a class just if they may be put in each other's places; then they may be put for the same, and in the same places.
func TestClasses(t *testing.T) {
	rnd := rand.New(rand.NewSource(78))
	some, several := 0, 0
	for range 1500 {
		s := someSwaps(rnd)
		at := someSpot(rnd, s)
		m, issues := countsOf(s, at), issuesOf(s)
		var want [][]api.Ref
		seen := map[api.Ref]bool{}
		for _, first := range issues {
			var class []api.Ref
			for _, x := range issues {
				if !seen[x] && m.may(first, x) && m.may(x, first) {
					class = append(class, x)
					seen[x] = true
				}
			}
			if len(class) > 1 {
				want = append(want, class)
			}
		}
		l, e := swap.Classes(s, at.signed, at.machine, at.day)
		if !slices.EqualFunc(l, want, slices.Equal[[]api.Ref]) || e != api.OK {
			t.Fatal(s, at, l, e, want)
		}
		if some += len(l); len(l) > 1 {
			several++
		}
		for _, class := range l {
			for _, x := range class[1:] {
				checkAlike(t, s, at, class[0], x)
			}
		}
	}
	if some < 500 || several < 50 {
		t.Error("few of a kind:", some, several)
	}
}

// checkAlike checks that two issues may be put in the same places, and the same pieces in theirs.
func checkAlike(t *testing.T, s api.Swaps, at spot, x, y api.Ref) {
	t.Helper()
	for i, list := range []func(api.Swaps, []int, int, int, api.Ref) ([]api.Ref, api.Errno){swap.For, swap.In} {
		one, e := list(s, at.signed, at.machine, at.day, x)
		other, f := list(s, at.signed, at.machine, at.day, y)
		if !slices.Equal(one, other) || e != api.OK || f != api.OK {
			t.Fatal(i, s, at, x, y, one, other, e, f)
		}
	}
}

// turned returns swaps with every rule and every way turned round.
func turned(s api.Swaps) api.Swaps {
	s = clone(s)
	for i, x := range s.Rules {
		s.Rules[i].From, s.Rules[i].To = x.To, x.From
	}
	for i, x := range s.Notes.Notes {
		s.Notes.Notes[i].Ways = []uint8{api.WayNone, api.WayNew, api.WayOld, api.WayBoth}[x.Ways]
	}
	return s
}

// P5.13: turned round, every rule and every way, what may be put is turned round.
func TestTurned(t *testing.T) {
	rnd := rand.New(rand.NewSource(79))
	oneWay := 0
	for range 500 {
		s := someSwaps(rnd)
		at := someSpot(rnd, s)
		back := turned(s)
		for _, x := range issuesOf(s) {
			pieces, e := swap.For(s, at.signed, at.machine, at.day, x)
			places, f := swap.In(back, at.signed, at.machine, at.day, x)
			if !slices.Equal(pieces, places) || e != api.OK || f != api.OK {
				t.Fatal(s, at, x, pieces, places, e, f)
			}
			for _, y := range issuesOf(s) {
				there, e := swap.May(s, at.signed, at.machine, at.day, x, y)
				other, f := swap.May(back, at.signed, at.machine, at.day, y, x)
				if there != other || e != api.OK || f != api.OK {
					t.Fatal(s, at, x, y, there, other, e, f)
				}
				if and, _ := swap.May(s, at.signed, at.machine, at.day, y, x); there && !and {
					oneWay++
				}
			}
		}
	}
	if oneWay < 500 {
		t.Error("few lead one way:", oneWay)
	}
}
