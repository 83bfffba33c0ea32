package swap_test

import (
	"fmt"
	"math/rand"
	"slices"
	"testing"

	"blueline/api"
	"blueline/note"
	"blueline/swap"
	"blueline/trial"
)

// P5.2: the examples, and rules that break rules that break rules.
func TestRulesExamples(t *testing.T) {
	each, all := valid()["broken each"], valid()["broken all"]
	for i, x := range []struct {
		s    api.Swaps
		day  int
		want []int
	}{
		{example(), 0, nil},
		{example(), 49, nil},
		{example(), 50, []int{1}},
		{example(), 150, []int{1, 2}},
		{example(), 200, []int{1, 2}},
		{example(), 299, []int{1, 2}},
		{example(), 300, []int{1, 3}},
		{example(), api.MaxDay, []int{1, 3}},
		{ruled(), 7, nil},
		// Each rule breaks the one before it.
		{each, 0, nil},
		{each, 1, []int{1}},
		{each, 2, []int{2}},
		{each, 3, []int{1, 3}},
		{each, 4, []int{2, 4}},
		{each, 5, []int{1, 3, 5}},
		// 2 and 3 break 1, and 4 just 2.
		{all, 2, []int{2}},
		{all, 3, []int{2, 3}},
		{all, 4, []int{3, 4}},
		// Rules of one day, and rules of issues that break others, and themselves are broken.
		{valid()["of one day"], 4, nil},
		{valid()["of one day"], 5, []int{1, 3}},
		{valid()["all of it"], 5, []int{7}},
		{valid()["all of it"], 6, []int{8}},
		{ruled(rule(3, 1, "10A", "10B"), breaking(3, rule(2, 2, "20A", "30A")), breaks(1, 3, 2)), 9, []int{3, 1}},
		// In the order of the list, which is not that of the Numbers; the first day, and the last one.
		{valid()["by days"], 7, []int{3, 2, 1}},
		{valid()["by days"], 6, []int{3, 2}},
		{valid()["ends"], 0, []int{1}},
		{valid()["ends"], api.MaxDay - 1, []int{1}},
		{valid()["ends"], api.MaxDay, []int{1, api.MaxId}},
		{valid()["16 rules"], 0, []int{1, 3}},
		{valid()["16 rules"], 1, []int{2, 4, 6}},
		{valid()["16 rules"], 9, []int{2, 4, 6, 8, 10, 12, 14, 16}},
	} {
		if l, e := swap.Rules(x.s, x.day); !slices.Equal(l, x.want) || e != api.OK {
			t.Error(i, l, e)
		}
	}
}

// P5.2: rules that stand are those that the chapter tells.
func TestRules(t *testing.T) {
	rnd := rand.New(rand.NewSource(72))
	broken, again := 0, 0
	for range 2000 {
		s := someSwaps(rnd)
		for day := range 6 {
			var want []int
			for i, x := range s.Rules {
				if stands(s.Rules, i, day) {
					want = append(want, x.Number)
					if x.Day < day && !stands(s.Rules, i, day-1) {
						again++
					}
				} else if x.Day <= day {
					broken++
				}
			}
			if l, e := swap.Rules(s, day); !slices.Equal(l, want) || e != api.OK {
				t.Fatal(s, day, l, e, want)
			}
		}
	}
	if broken < 2000 || again < 200 {
		t.Error("few of a kind:", broken, again)
	}
}

// P5.2: the examples, and steps by notes in all ways, in truths, and on days.
func TestStepsExamples(t *testing.T) {
	ways := noted(
		letting(api.WayNone, trial.Gives(9, 1, 30, 2, 1, 99)), letting(api.WayOld, trial.Gives(8, 2, 30, 2, 1, 99)),
		letting(api.WayNew, trial.Gives(7, 3, 30, 2, 1, 99)), letting(api.WayBoth, trial.Gives(6, 4, 10, 2, 1, 99)), trial.Gives(5, 5, 30, 1, 1, 99))
	ways.Rules = []api.Rule{both(7, 0, "50A", "40A"), rule(1, 3, "40A", "50A"), rule(2, 3, "30B", "30A")}
	letters := api.Swaps{Notes: api.Notes{Register: trial.Lettered(7, 8), Notes: []api.Note{letting(api.WayOld, trial.Gives(1, 1, 7, 8, 3, 5)), letting(api.WayBoth, trial.Gives(2, 1, 7, 5, 5, 9))}}}
	doubt := noted(
		maybe(letting(api.WayOld, trial.Gives(5, 10, 30, 2, 1, 9))), trial.As(api.KnownNo, letting(api.WayOld, trial.Gives(6, 10, 30, 2, 1, 9))),
		maybe(letting(api.WayNew, trial.Gives(4, 20, 10, 2, 1, 9))), maybe(trial.Cancels(3, 30, 5, 2, 3)), trial.Cancels(2, 40, 3, 3, 3))
	for i, x := range []struct {
		s    api.Swaps
		at   spot
		want string
	}{
		{example(), spot{nil, 9, 200}, "note 101 30B-30A, rule 1 40A-30B, rule 2 50A-40A, rule 2 40A-50A"},
		{example(), spot{nil, 9, 300}, "note 101 30B-30A, rule 1 40A-30B"},
		{example(), spot{nil, 9, 149}, "note 101 30B-30A, rule 1 40A-30B"},
		{example(), spot{nil, 9, 99}, "rule 1 40A-30B"},
		{example(), spot{nil, 9, 49}, ""},
		{example(), spot{nil, 4, 200}, "rule 1 40A-30B, rule 2 50A-40A, rule 2 40A-50A"},
		{example(), spot{nil, 5, 100}, "note 101 30B-30A, rule 1 40A-30B"},
		{example(), spot{nil, 999, 100}, "note 101 30B-30A, rule 1 40A-30B"},
		{example(), spot{nil, 11, 299}, "note 101 30B-30A, rule 1 40A-30B, rule 2 50A-40A, rule 2 40A-50A"},
		{example(), spot{nil, 11, 300}, "rule 1 40A-30B"},
		{example(), spot{nil, 13, 300}, "note 101 30B-30A, rule 1 40A-30B"},
		// All ways, in the order of the list.
		{ways, spot{nil, 9, 5}, "note 8 30A-30B, note 7 30B-30A, note 6 10A-10B, note 6 10B-10A, rule 7 50A-40A, rule 7 40A-50A, rule 1 40A-50A, rule 2 30B-30A"},
		{ways, spot{nil, 9, 2}, "note 8 30A-30B, rule 7 50A-40A, rule 7 40A-50A"},
		{ways, spot{nil, 100, 3}, "rule 7 50A-40A, rule 7 40A-50A, rule 1 40A-50A, rule 2 30B-30A"},
		// Old pieces are those with the letter right before.
		{letters, spot{nil, 4, 1}, "note 1 7G-7H"},
		{letters, spot{nil, 5, 1}, "note 1 7G-7H, note 2 7D-7E, note 2 7E-7D"},
		{letters, spot{nil, 6, 1}, "note 2 7D-7E, note 2 7E-7D"},
		// In truths: notes of later days do not count, nor what they cancel.
		{doubt, spot{nil, 1, 99}, ""},
		{doubt, spot{[]int{5}, 1, 9}, ""},
		{doubt, spot{[]int{5}, 1, 10}, "note 5 30A-30B"},
		{doubt, spot{[]int{4, 5}, 1, 10}, "note 5 30A-30B"},
		{doubt, spot{[]int{4, 5}, 1, 20}, "note 5 30A-30B, note 4 10B-10A"},
		{doubt, spot{[]int{4}, 1, 20}, "note 4 10B-10A"},
		{doubt, spot{[]int{4}, 10, 20}, ""},
		{doubt, spot{[]int{3, 5}, 2, 29}, "note 5 30A-30B"},
		{doubt, spot{[]int{3, 5}, 2, 30}, ""},
		{doubt, spot{[]int{3, 5}, 3, 30}, ""},
		{doubt, spot{[]int{3, 5}, 3, 39}, ""},
		{doubt, spot{[]int{3, 5}, 3, 40}, "note 5 30A-30B"},
		{doubt, spot{[]int{3, 5}, 2, 40}, ""},
		// A note that is cancelled later is in force until then.
		{open(), spot{[]int{102, 104}, 11, 299}, "note 101 30B-30A, rule 1 40A-30B, rule 2 50A-40A, rule 2 40A-50A"},
		{open(), spot{[]int{102, 104}, 11, 309}, "rule 1 40A-30B"},
		{open(), spot{[]int{102, 104}, 11, 310}, "note 101 30B-30A, rule 1 40A-30B"},
		{open(), spot{[]int{102, 104}, 12, 320}, "note 102 10A-10B, rule 1 40A-30B"},
		{open(), spot{[]int{104}, 12, 320}, "rule 1 40A-30B"},
		{open(), spot{[]int{102}, 11, 320}, "note 102 10A-10B, rule 1 40A-30B"},
		// A number of a note, and of a rule; the same step again, and turned round.
		{valid()["a number of"], spot{nil, 9, 299}, "note 101 30B-30A, rule 103 40A-30B, rule 2 50A-40A, rule 2 40A-50A"},
		{valid()["same again"], spot{nil, 9, 1}, "rule 1 10A-30B, rule 2 10A-30B, rule 3 30B-10A, rule 4 10A-30B, rule 4 30B-10A"},
		{valid()["broken each"], spot{nil, 9, 2}, ""},
		{valid()["broken each"], spot{nil, 9, 3}, "rule 1 10A-30B"},
		{valid()["all of it"], spot{nil, 9, 6}, "rule 8 30B-30A, rule 8 30A-30B"},
		{ruled(), spot{nil, 1, 0}, ""},
	} {
		if l, e := swap.Steps(x.s, x.at.signed, x.at.machine, x.at.day); stepsText(l) != x.want || e != api.OK {
			t.Error(i, stepsText(l), e)
		}
	}
}

// P5.2: steps are those that the chapter tells.
func TestSteps(t *testing.T) {
	rnd := rand.New(rand.NewSource(73))
	byNotes, byRules := 0, 0
	for range 3000 {
		s := someSwaps(rnd)
		at := someSpot(rnd, s)
		l, e := swap.Steps(s, at.signed, at.machine, at.day)
		if want := stepsOf(s, at); !slices.Equal(l, want) || e != api.OK {
			t.Fatal(s, at, stepsText(l), e, stepsText(want))
		}
		for _, x := range l {
			if x.Note {
				byNotes++
			} else {
				byRules++
			}
		}
	}
	if byNotes < 1000 || byRules < 1000 {
		t.Error("few of a kind:", byNotes, byRules)
	}
}

// P5.2: on the last day all notes and rules count, and steps by notes are by those that are in force.
func TestStepsOfTheLastDay(t *testing.T) {
	rnd := rand.New(rand.NewSource(74))
	for range 500 {
		s := someSwaps(rnd)
		at := someSpot(rnd, s)
		at.day = api.MaxDay
		force, e := note.Force(s.Notes, at.signed, at.machine)
		rules, f := swap.Rules(s, at.day)
		l, g := swap.Steps(s, at.signed, at.machine, at.day)
		if e != api.OK || f != api.OK || g != api.OK {
			t.Fatal(s, at, e, f, g)
		}
		var numbers, want []string
		for _, x := range l {
			numbers = append(numbers, fmt.Sprint(x.Note, x.Number))
		}
		for _, x := range s.Notes.Notes {
			if slices.Contains(force, x.Number) && x.Ways != api.WayNone {
				want = append(want, fmt.Sprint(true, x.Number))
			}
		}
		for _, x := range s.Rules {
			if slices.Contains(rules, x.Number) && x.From.Drawing > 0 {
				want = append(want, fmt.Sprint(false, x.Number))
			}
		}
		if !slices.Equal(slices.Compact(numbers), want) {
			t.Fatal(s, at, numbers, want)
		}
	}
}
