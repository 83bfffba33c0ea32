package swap_test

import (
	"fmt"
	"math/rand"
	"slices"
	"testing"

	"blueline/api"
	"blueline/note"
	"blueline/swap"
	"blueline/trial"
)

// wrongSwaps returns swaps that are not valid, with notes that are.
func wrongSwaps() map[string]api.Swaps {
	many := ruled()
	for i := range api.MaxRules + 1 {
		many.Rules = append(many.Rules, rule(1+i, i, "10A", "10B"))
	}
	m := map[string]api.Swaps{
		"17 rules":            many,
		"zero":                ruled(api.Rule{}),
		"a day too late":      ruled(rule(1, api.MaxDay+1, "10A", "10B")),
		"a day too early":     ruled(rule(1, -1, "10A", "10B")),
		"number 10000":        ruled(rule(api.MaxId+1, 1, "10A", "10B")),
		"number 0":            ruled(rule(0, 1, "10A", "10B")),
		"a number twice":      ruled(rule(1, 1, "10A", "10B"), rule(1, 2, "10A", "10B")),
		"twice on a day":      ruled(rule(1, 1, "10A", "10B"), rule(1, 1, "10A", "10B")),
		"twice, far apart":    ruled(rule(5, 1, "10A", "10B"), rule(2, 2, "10A", "10B"), rule(9, 3, "30A", "10B"), rule(5, 4, "10A", "10B")),
		"days turned":         ruled(rule(1, 2, "10A", "10B"), rule(2, 1, "10A", "10B")),
		"last days turned":    ruled(rule(1, 1, "10A", "10B"), rule(2, 3, "10A", "10B"), rule(3, 2, "10A", "10B")),
		"numbers turned":      ruled(rule(2, 1, "10A", "10B"), rule(1, 1, "10A", "10B")),
		"no such letter":      ruled(rule(1, 1, "10A", "10C")),
		"from no letter":      ruled(rule(1, 1, "20B", "10A")),
		"no such drawing":     ruled(rule(1, 1, "10A", "60A")),
		"from no drawing":     ruled(rule(1, 1, "35A", "10A")),
		"both of no issue":    ruled(rule(1, 1, "70A", "60A")),
		"the same":            ruled(rule(1, 1, "10A", "10A")),
		"the same both ways":  ruled(both(1, 1, "30B", "30B")),
		"the same, and break": ruled(rule(1, 1, "10A", "10B"), breaking(1, rule(2, 2, "10A", "10A"))),
		"the same of none":    ruled(rule(1, 1, "10A", "10B"), breaking(1, rule(2, 2, "60A", "60A"))),
		"a break of nothing":  ruled(breaks(1, 1, 0)),
		"a break of itself":   ruled(breaks(1, 1, 1)),
		"breaks itself":       ruled(breaking(1, rule(1, 1, "10A", "10B"))),
		"breaks a later one":  ruled(breaking(2, rule(1, 1, "10A", "10B")), rule(2, 2, "10A", "10B")),
		"breaks no rule":      ruled(rule(1, 1, "10A", "10B"), breaks(2, 2, 3)),
		"breaks a note":       changed(func(s *api.Swaps) { s.Rules[2].Breaks = 101 }),
		"both ways of none":   changed(func(s *api.Swaps) { s.Rules[2].Both = true }),
		"to without from":     changed(func(s *api.Swaps) { s.Rules[2].To = is("10A") }),
		"from without to":     changed(func(s *api.Swaps) { s.Rules[2].From = is("10A") }),
		"to no issue":         changed(func(s *api.Swaps) { s.Rules[0].To = api.Ref{} }),
		"from no issue":       changed(func(s *api.Swaps) { s.Rules[0].From = api.Ref{} }),
		"a drawing without":   changed(func(s *api.Swaps) { s.Rules[0].From.Letter = 0 }),
		"a letter without":    changed(func(s *api.Swaps) { s.Rules[0].From.Drawing = 0 }),
		"none, but a letter":  changed(func(s *api.Swaps) { s.Rules[2].From.Letter, s.Rules[2].To.Letter = 1, 1 }),
		"none, but a drawing": changed(func(s *api.Swaps) { s.Rules[2].From.Drawing, s.Rules[2].To.Drawing = 10, 10 }),
		"a register with one": {Notes: api.Notes{Register: trial.Lettered(10, 1)}, Rules: []api.Rule{rule(1, 1, "10A", "10B")}},
	}
	for _, far := range trial.Far() {
		m[fmt.Sprint("from ", far)] = changed(func(s *api.Swaps) { s.Rules[0].From.Drawing = far })
		m[fmt.Sprint("to ", far)] = changed(func(s *api.Swaps) { s.Rules[1].To.Drawing = far })
		m[fmt.Sprint("from letter ", far)] = changed(func(s *api.Swaps) { s.Rules[0].From.Letter = far })
		m[fmt.Sprint("to letter ", far)] = changed(func(s *api.Swaps) { s.Rules[1].To.Letter = far })
		if far != 0 {
			m[fmt.Sprint("breaks ", far)] = changed(func(s *api.Swaps) { s.Rules[1].Breaks = far })
			m[fmt.Sprint("first breaks ", far)] = changed(func(s *api.Swaps) { s.Rules[0].Breaks = far })
		}
		if far < 1 || far > api.MaxId {
			m[fmt.Sprint("number ", far)] = changed(func(s *api.Swaps) { s.Rules[1].Number = far })
			m[fmt.Sprint("number alone ", far)] = ruled(rule(far, 1, "10A", "10B"))
		}
		if far < 0 || far > api.MaxDay {
			m[fmt.Sprint("day ", far)] = changed(func(s *api.Swaps) { s.Rules[2].Day = far })
			m[fmt.Sprint("day alone ", far)] = ruled(rule(1, far, "10A", "10B"))
		}
	}
	return m
}

// wrongNotes returns swaps whose notes are not valid, with rules that are, or are not.
func wrongNotes() map[string]api.Swaps {
	m := map[string]api.Swaps{}
	circle := trial.Register(trial.Assembly(10, 1, 30, 1), trial.Assembly(10, 2, 30, 1), trial.Assembly(30, 1, 10, 1), trial.Assembly(30, 2, 10, 1))
	for name, s := range map[string]api.Swaps{"good": example(), "none": {}, "wrong": wrongSwaps()["zero"], "17": wrongSwaps()["17 rules"]} {
		s.Notes = api.Notes{}
		m["nothing, "+name] = s
		s.Notes = example().Notes
		s.Notes.Notes[1].Number = 101
		m["a number twice, "+name] = s
		s.Notes = api.Notes{Register: circle}
		m["a circle, "+name] = s
		s.Notes = example().Notes
		s.Notes.Notes[0].Ways = 4
		m["a wrong way, "+name] = s
	}
	return m
}

// P5.1: what is valid is OK, what is not ErrSwaps; the notes' error comes first.
func TestCheck(t *testing.T) {
	seen := map[api.Errno]bool{}
	for name, s := range valid() {
		if e := swap.Check(s); e != api.OK {
			t.Error(name, e)
		}
	}
	for name, s := range wrongSwaps() {
		if e := swap.Check(s); e != api.ErrSwaps {
			t.Error(name, e)
		}
	}
	for name, s := range wrongNotes() {
		e := swap.Check(s)
		if seen[e] = true; e == api.OK || e != note.Check(s.Notes) {
			t.Error(name, e)
		}
	}
	if len(seen) != 3 {
		t.Error("not all errors of notes:", seen)
	}
}

// naive tells what Check has to return, as slowly as the chapter does.
func naive(s api.Swaps) api.Errno {
	if e := note.Check(s.Notes); e != api.OK {
		return e
	}
	issues, none := issuesOf(s), api.Ref{}
	good := len(s.Rules) <= 16
	for i, x := range s.Rules {
		good = good && 1 <= x.Number && x.Number <= 9999 && 0 <= x.Day && x.Day <= 14610
		isOfTwo := slices.Contains(issues, x.From) && slices.Contains(issues, x.To) && x.From != x.To
		good = good && (isOfTwo || x.From == none && x.To == none && !x.Both && x.Breaks != 0)
		found := x.Breaks == 0
		for _, y := range s.Rules[:i] {
			good = good && y.Number != x.Number && ruleOrder(y, x) < 0
			found = found || y.Number == x.Breaks
		}
		good = good && found
	}
	if !good {
		return api.ErrSwaps
	}
	return api.OK
}

// spoil changes something of a rule, so that it may not be valid any more.
func spoil(rnd *rand.Rand, l []api.Rule, issues []api.Ref) {
	x, y := &l[rnd.Intn(len(l))], l[rnd.Intn(len(l))]
	switch rnd.Intn(8) {
	case 0:
		x.Number += rnd.Intn(5) - 2
	case 1:
		x.Day += rnd.Intn(5) - 2
	case 2:
		x.From = issues[rnd.Intn(len(issues))]
	case 3:
		x.To = issues[rnd.Intn(len(issues))]
	case 4:
		x.Both = !x.Both
	case 5:
		x.Breaks = y.Number
	case 6:
		x.Breaks = 0
	case 7:
		x.To.Letter += rnd.Intn(3) - 1
	}
}

// P5.1: any swaps, and some in which something was changed, are what the chapter tells.
func TestCheckIsNaive(t *testing.T) {
	rnd := rand.New(rand.NewSource(71))
	seen := map[api.Errno]int{}
	for range 6000 {
		s := someSwaps(rnd)
		for range rnd.Intn(3) {
			if len(s.Rules) > 0 {
				spoil(rnd, s.Rules, issuesOf(s))
			}
		}
		if len(s.Notes.Notes) > 0 && rnd.Intn(10) == 0 {
			s.Notes.Notes[0].From = 0
		}
		e := swap.Check(s)
		if want := naive(s); e != want {
			t.Fatal(s, e, want)
		}
		seen[e]++
	}
	if seen[api.OK] < 1000 || seen[api.ErrSwaps] < 1000 || seen[api.ErrNotes] < 100 {
		t.Error("few of a kind:", seen)
	}
}

// arguments are all that functions get besides swaps.
type arguments struct {
	signed           []int
	machine, day, to int
	piece, place     api.Ref
}

func told[T any](x T, e api.Errno) (string, api.Errno) { return fmt.Sprint(x), e }

// functions returns all functions of the chapter but Check.
func functions() []trial.Function[api.Swaps, arguments] {
	return []trial.Function[api.Swaps, arguments]{
		trial.Of("Rules", "day", func(s api.Swaps, a arguments) (string, api.Errno) { return told(swap.Rules(s, a.day)) }),
		trial.Of("Steps", "truth machine day", func(s api.Swaps, a arguments) (string, api.Errno) {
			return told(swap.Steps(s, a.signed, a.machine, a.day))
		}),
		trial.Of("May", "truth machine day piece place", func(s api.Swaps, a arguments) (string, api.Errno) {
			return told(swap.May(s, a.signed, a.machine, a.day, a.piece, a.place))
		}),
		trial.Of("Chain", "truth machine day piece place", func(s api.Swaps, a arguments) (string, api.Errno) {
			return told(swap.Chain(s, a.signed, a.machine, a.day, a.piece, a.place))
		}),
		trial.Of("For", "truth machine day place", func(s api.Swaps, a arguments) (string, api.Errno) {
			return told(swap.For(s, a.signed, a.machine, a.day, a.place))
		}),
		trial.Of("In", "truth machine day piece", func(s api.Swaps, a arguments) (string, api.Errno) {
			return told(swap.In(s, a.signed, a.machine, a.day, a.piece))
		}),
		trial.Of("Classes", "truth machine day", func(s api.Swaps, a arguments) (string, api.Errno) {
			return told(swap.Classes(s, a.signed, a.machine, a.day))
		}),
		trial.Of("Lost", "truth machine day last", func(s api.Swaps, a arguments) (string, api.Errno) {
			return told(swap.Lost(s, a.signed, a.machine, a.day, a.to))
		}),
		trial.Of("Sure", "machine day piece place", func(s api.Swaps, a arguments) (string, api.Errno) {
			return told(swap.Sure(s, a.machine, a.day, a.piece, a.place))
		}),
		trial.Of("Places", "truth machine day", func(s api.Swaps, a arguments) (string, api.Errno) {
			return told(swap.Places(s, a.signed, a.machine, a.day))
		}),
	}
}

func isNothing(results string) bool {
	return results == "[]" || results == "0" || results == "false"
}

// good returns arguments that are good for the swaps of the examples, also with open notes.
func good() arguments {
	return arguments{machine: 9, day: 200, to: 300, piece: is("50A"), place: is("30A")}
}

// P5.1, R1, R2: Check's errors come first, then ErrTruth, then ErrArg, then ErrNone; nothing else with them.
func TestOrderOfErrors(t *testing.T) {
	bad := arguments{[]int{101}, 1000, -1, api.MaxDay + 1, is("50B"), is("31A")}
	for _, of := range []map[string]api.Swaps{wrongSwaps(), wrongNotes()} {
		other := good()
		other.signed = []int{101}
		for _, early := range trial.Early(functions(), of, []arguments{good(), bad, {}, other}, swap.Check, isNothing) {
			t.Error(early)
		}
	}
	wrongs := []trial.Wrong[arguments]{
		trial.Badly("truth", func(a *arguments) { a.signed = bad.signed }, api.ErrTruth),
		trial.Badly("machine", func(a *arguments) { a.machine = bad.machine }, api.ErrArg),
		trial.Badly("day", func(a *arguments) { a.day = bad.day }, api.ErrArg),
		trial.Badly("last", func(a *arguments) { a.to = bad.to }, api.ErrArg),
		trial.Badly("piece", func(a *arguments) { a.piece = bad.piece }, api.ErrNone),
		trial.Badly("place", func(a *arguments) { a.place = bad.place }, api.ErrNone),
	}
	for _, s := range []api.Swaps{example(), open()} {
		for _, wrong := range trial.Disordered(functions(), s, good(), wrongs, isNothing) {
			t.Error(wrong)
		}
	}
}

// disagreeing returns the names of all functions that do not return an error just if they take such an argument.
func disagreeing(word string, a arguments, want api.Errno) []string {
	var l []string
	for _, f := range functions() {
		if text, e := f.Call(open(), a); f.Has(word) && (e != want || !isNothing(text)) || !f.Has(word) && e != api.OK {
			l = append(l, fmt.Sprint(f.Name, " ", text, " ", e))
		}
	}
	return l
}

// P5.1: whatever tells no truth is ErrTruth, whatever is no machine or no day ErrArg, and an issue that there is not ErrNone.
func TestWrongArguments(t *testing.T) {
	lists := [][]int{{101}, {103}, {102, 102}, {104, 102}, {102, 103}, {101, 102}, {0, 102}, {102, 0}, {-102}, {1}, {2}, make([]int, 100000)}
	for _, far := range trial.Far() {
		lists = append(lists, []int{far}, []int{102, far}, []int{far, 102})
	}
	for _, signed := range lists {
		a := good()
		a.signed = signed
		for _, wrong := range disagreeing("truth", a, api.ErrTruth) {
			t.Error(len(signed), signed[0], wrong)
		}
	}
	for _, far := range append(trial.Far(), 1000, 14611, 3, 5, 9) {
		for i, x := range []trial.Wrong[arguments]{
			trial.Badly("machine", func(a *arguments) { a.machine = far }, api.ErrArg),
			trial.Badly("day", func(a *arguments) { a.day = far }, api.ErrArg),
			trial.Badly("last", func(a *arguments) { a.to = far }, api.ErrArg),
			trial.Badly("piece", func(a *arguments) { a.piece.Drawing = far }, api.ErrNone),
			trial.Badly("piece", func(a *arguments) { a.piece.Letter = far }, api.ErrNone),
			trial.Badly("place", func(a *arguments) { a.place.Drawing = far }, api.ErrNone),
			trial.Badly("place", func(a *arguments) { a.place.Letter = far }, api.ErrNone),
		} {
			a := good()
			x.Make(&a)
			if x.Error == api.ErrArg && isInTime(a) {
				continue
			}
			for _, wrong := range disagreeing(x.Word, a, x.Error) {
				t.Error(i, far, wrong)
			}
		}
	}
}

// isInTime reports whether the machine and the days of arguments are some.
func isInTime(a arguments) bool {
	return 1 <= a.machine && a.machine <= 999 && 0 <= min(a.day, a.to) && max(a.day, a.to) <= 14610
}

// P5.1: the ends of what is allowed are.
func TestGoodArguments(t *testing.T) {
	for _, machine := range []int{1, 2, 998, api.MaxMachine} {
		for _, day := range []int{0, 1, 14609, api.MaxDay} {
			for _, to := range []int{0, 200, api.MaxDay} {
				for _, signed := range [][]int{nil, {}, {102}, {104}, {102, 104}} {
					a := arguments{signed, machine, day, to, is("30B"), is("30B")}
					for _, wrong := range disagreeing("nothing", a, api.OK) {
						t.Error(a, wrong)
					}
				}
			}
		}
	}
}
