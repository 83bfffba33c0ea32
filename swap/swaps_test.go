package swap_test

import (
	"fmt"
	"math/rand"
	"slices"
	"strconv"
	"strings"
	"testing"

	"blueline/api"
	"blueline/swap"
	"blueline/trial"
)

// Short names of what is in nearly every test.
var (
	is, all               = trial.Is, trial.AreAll
	issueText, issuesText = trial.IssueText, trial.IssuesText
	rule, both, breaks    = trial.Rule, trial.BothWays, trial.Breaks
	letting, ruleOrder    = trial.Letting, trial.RuleOrder
)

// stepsText is a text of steps, such as: note 101 30B-30A, rule 1 40A-30B.
func stepsText(l []api.Step) string {
	var words []string
	for _, x := range l {
		kind := "rule "
		if x.Note {
			kind = "note "
		}
		words = append(words, kind+strconv.Itoa(x.Number)+" "+issueText(x.From)+"-"+issueText(x.To))
	}
	return strings.Join(words, ", ")
}

// breaking returns a rule that breaks another one, too.
func breaking(other int, x api.Rule) api.Rule {
	x.Breaks = other
	return x
}

// maybe returns a note that nobody knows to be signed.
func maybe(x api.Note) api.Note { return trial.As(api.KnownOpen, x) }

// ruled returns swaps with the register of the examples, without notes.
func ruled(l ...api.Rule) api.Swaps {
	return api.Swaps{Notes: trial.Noted(), Rules: l}
}

// noted returns swaps with the register of the examples, without rules.
func noted(l ...api.Note) api.Swaps {
	return api.Swaps{Notes: trial.Noted(l...)}
}

// example returns the swaps of the chapter's examples.
func example() api.Swaps {
	n := trial.Noted(letting(api.WayNew, trial.Gives(101, 100, 30, 2, 5, 999)), trial.Cancels(103, 300, 101, 10, 12))
	return api.Swaps{Notes: n, Rules: []api.Rule{rule(1, 50, "40A", "30B"), both(2, 150, "50A", "40A"), breaks(3, 300, 2)}}
}

// open returns the swaps of the examples, with an open note that cancels another one, and one that gives a letter.
func open() api.Swaps {
	s := example()
	s.Notes.Notes = append(s.Notes.Notes, maybe(trial.Cancels(104, 310, 103, 11, 11)), maybe(letting(api.WayOld, trial.Gives(102, 320, 10, 2, 1, 999))))
	return s
}

// changed returns the swaps of the examples with a change.
func changed(change func(s *api.Swaps)) api.Swaps {
	s := example()
	change(&s)
	return s
}

// line returns swaps with as many issues, notes and rules as there may be, whose steps go from each issue to the next one, from 1 A to 4 E; perhaps back, too.
func line(ways uint8, back bool) api.Swaps {
	var s api.Swaps
	for i := range api.MaxIssues {
		s.Notes.Register.Issues = append(s.Notes.Register.Issues, trial.Part(1+i/8, 1+i%8))
	}
	issues := issuesOf(s)
	for i, x := range issues[:api.MaxNotes+api.MaxRules] {
		next := issues[i+1]
		if x.Drawing == next.Drawing && len(s.Notes.Notes) < api.MaxNotes {
			s.Notes.Notes = append(s.Notes.Notes, letting(ways, trial.Gives(100-i, i, next.Drawing, next.Letter, 1, api.MaxMachine)))
		} else {
			s.Rules = append(s.Rules, api.Rule{Number: 100 - i, Day: i, From: x, To: next, Both: back})
		}
	}
	return s
}

// valid returns swaps of which something is at its end.
func valid() map[string]api.Swaps {
	full := line(api.WayBoth, true)
	for i := range api.MaxOpen {
		full.Notes.Notes[2*i].Signed = api.KnownOpen
	}
	many := api.Swaps{Notes: trial.Noted()}
	for i := range api.MaxRules {
		many.Rules = append(many.Rules, breaking(i, rule(1+i, i/3, "10A", "10B")))
	}
	return map[string]api.Swaps{
		"the examples": example(), "open": open(), "a line": line(api.WayOld, false), "back": line(api.WayNew, true), "full": full, "16 rules": many,
		"none":        ruled(),
		"one issue":   {Notes: api.Notes{Register: trial.Lettered(api.MaxId, 1)}},
		"ends":        ruled(rule(1, 0, "10A", "10B"), rule(api.MaxId, api.MaxDay, "50A", "20A")),
		"of one day":  ruled(rule(1, 5, "10A", "10B"), breaks(2, 5, 1), breaking(2, both(3, 5, "10B", "10A"))),
		"by days":     ruled(rule(3, 5, "10A", "10B"), rule(2, 6, "10A", "10B"), rule(1, 7, "10A", "10B")),
		"all of it":   ruled(rule(7, 5, "10A", "10B"), breaking(7, both(8, 6, "30B", "30A"))),
		"broken each": ruled(rule(1, 1, "10A", "30B"), breaks(2, 2, 1), breaks(3, 3, 2), breaks(4, 4, 3), breaks(5, 5, 4)),
		"broken all":  ruled(rule(1, 1, "10A", "30B"), breaks(2, 2, 1), breaks(3, 3, 1), breaks(4, 4, 2)),
		"same again":  ruled(rule(1, 1, "10A", "30B"), rule(2, 1, "10A", "30B"), rule(3, 1, "30B", "10A"), both(4, 1, "10A", "30B")),
		"a number of": changed(func(s *api.Swaps) { s.Rules[2].Number, s.Rules[0].Number = 101, 103 }),
		"of a letter": {Notes: api.Notes{Register: trial.Lettered(7, 8)}, Rules: []api.Rule{both(1, 1, "7H", "7A")}},
		"notes alone": changed(func(s *api.Swaps) { s.Rules = nil }),
		"rules alone": changed(func(s *api.Swaps) { s.Notes.Notes = nil }),
	}
}

// issuesOf returns all issues of the register, in order.
func issuesOf(s api.Swaps) []api.Ref { return trial.IssuesOf(s.Notes) }

// someSwaps returns any valid swaps, with many rules that break each other; the days of their notes and rules are from 0 to 4.
func someSwaps(rnd *rand.Rand) api.Swaps {
	n := trial.SomeNotes(rnd)
	return api.Swaps{Notes: n, Rules: trial.SomeRules(rnd, n)}
}

// clone returns swaps in memory of their own.
func clone(s api.Swaps) api.Swaps {
	return api.Swaps{Notes: trial.CloneNotes(s.Notes), Rules: slices.Clone(s.Rules)}
}

// spot is of what swaps are asked: a truth, a machine and a day.
type spot struct {
	signed       []int
	machine, day int
}

// someSpot returns a truth, a machine near an end of a note, and a day near those of notes and rules.
func someSpot(rnd *rand.Rand, s api.Swaps) spot {
	machines := trial.MachinesOf(s.Notes)
	return spot{trial.SomeTruth(rnd, s.Notes), machines[rnd.Intn(len(machines))], rnd.Intn(6)}
}

// stands reports whether the rule with an index stands on a day, as the chapter says it.
func stands(l []api.Rule, i, day int) bool {
	for k := i + 1; k < len(l); k++ {
		if l[k].Breaks == l[i].Number && stands(l, k, day) {
			return false
		}
	}
	return l[i].Day <= day
}

// inForce reports whether the note with an index is in force on a day, as the chapters say it.
func inForce(l []api.Note, i int, at spot) bool {
	x := l[i]
	if x.Day > at.day || x.From > at.machine || at.machine > x.To || x.Signed == api.KnownNo || x.Signed == api.KnownOpen && !slices.Contains(at.signed, x.Number) {
		return false
	}
	for k := i + 1; k < len(l); k++ {
		if l[k].Cancels == x.Number && inForce(l, k, at) {
			return false
		}
	}
	return true
}

// stepsOf returns all steps, as the chapter says it.
func stepsOf(s api.Swaps, at spot) []api.Step {
	var l []api.Step
	for i, x := range s.Notes.Notes {
		old, made := api.Ref{Drawing: x.Drawing, Letter: x.Letter - 1}, api.Ref{Drawing: x.Drawing, Letter: x.Letter}
		if !inForce(s.Notes.Notes, i, at) {
			continue
		}
		if x.Ways == api.WayOld || x.Ways == api.WayBoth {
			l = append(l, api.Step{From: old, To: made, Number: x.Number, Note: true})
		}
		if x.Ways == api.WayNew || x.Ways == api.WayBoth {
			l = append(l, api.Step{From: made, To: old, Number: x.Number, Note: true})
		}
	}
	for i, x := range s.Rules {
		if x.From.Drawing == 0 || !stands(s.Rules, i, at.day) {
			continue
		}
		l = append(l, api.Step{From: x.From, To: x.To, Number: x.Number})
		if x.Both {
			l = append(l, api.Step{From: x.To, To: x.From, Number: x.Number})
		}
	}
	return l
}

// counts tells of pairs of a piece and a place by how many steps the piece may be put there at least; a pair for which it may not is not in it.
type counts map[[2]api.Ref]int

// countsOf returns how many steps it takes, by putting pairs together for as long as there are new ones.
func countsOf(s api.Swaps, at spot) counts {
	steps, m := stepsOf(s, at), counts{}
	var ends [][2]api.Ref
	for _, x := range issuesOf(s) {
		ends = append(ends, [2]api.Ref{x, x})
	}
	for n := 0; len(ends) > 0; n++ {
		var next [][2]api.Ref
		for _, pair := range ends {
			if _, known := m[pair]; known {
				continue
			}
			m[pair] = n
			for _, x := range steps {
				if x.From == pair[1] {
					next = append(next, [2]api.Ref{pair[0], x.To})
				}
			}
		}
		ends = next
	}
	return m
}

// may reports whether a piece may be put in a place.
func (m counts) may(piece, place api.Ref) bool {
	_, may := m[[2]api.Ref{piece, place}]
	return may
}

// Swaps that are made for tests are valid.
func TestSwaps(t *testing.T) {
	rnd := rand.New(rand.NewSource(70))
	for range 500 {
		s := someSwaps(rnd)
		if swap.Check(s) != api.OK || swap.Check(clone(s)) != api.OK || fmt.Sprint(clone(s)) != fmt.Sprint(s) {
			t.Fatal(s)
		}
	}
}
