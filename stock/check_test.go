package stock_test

import (
	"fmt"
	"math/rand"
	"slices"
	"testing"

	"blueline/api"
	"blueline/note"
	"blueline/sheet"
	"blueline/stock"
	"blueline/trial"
)

// wrongStocks returns stocks that are not valid, with notes that are.
func wrongStocks() map[string]api.Stock {
	m := map[string]api.Stock{
		"no piles":          changed(func(s *api.Stock) { s.Piles = nil }),
		"a pile too few":    changed(func(s *api.Stock) { s.Piles = []int{20} }),
		"a pile too many":   changed(func(s *api.Stock) { s.Piles = []int{20, 3, 0} }),
		"none of 40":        changed(func(s *api.Stock) { s.Drawing = 40 }),
		"of an assembly":    changed(func(s *api.Stock) { s.Drawing = 10 }),
		"of another one":    changed(func(s *api.Stock) { s.Drawing, s.Piles = 20, []int{1} }),
		"of itself":         changed(func(s *api.Stock) { s.Of, s.Drawing, s.Piles = 20, 20, []int{1} }),
		"for no drawing":    changed(func(s *api.Stock) { s.Of = 11 }),
		"of no drawing":     changed(func(s *api.Stock) { s.Drawing = 31 }),
		"nothing":           {Notes: example().Notes},
		"machines turned":   changed(func(s *api.Stock) { s.Machines = []int{6, 4, 9} }),
		"last ones turned":  changed(func(s *api.Stock) { s.Machines = []int{4, 9, 6} }),
		"a machine twice":   changed(func(s *api.Stock) { s.Machines = []int{4, 4, 9} }),
		"the last twice":    changed(func(s *api.Stock) { s.Machines = []int{4, 9, 9} }),
		"13 machines":       changed(func(s *api.Stock) { s.Machines = []int{1, 2, 3, 4, 5, 6, 7, 8, 9, 10, 11, 12, 13} }),
		"machine 0 alone":   changed(func(s *api.Stock) { s.Machines = []int{0} }),
		"machine 1000":      changed(func(s *api.Stock) { s.Machines = []int{4, 1000} }),
		"all machines 0":    changed(func(s *api.Stock) { s.Machines = make([]int, 3) }),
		"a wrong pile of 0": alone([]int{0, -1, 0}, 3),
	}
	for _, far := range trial.Far() {
		m[fmt.Sprint("for ", far)] = changed(func(s *api.Stock) { s.Of = far })
		m[fmt.Sprint("of ", far)] = changed(func(s *api.Stock) { s.Drawing = far })
		if far < 0 || far > api.MaxPile {
			m[fmt.Sprint("first pile ", far)] = changed(func(s *api.Stock) { s.Piles[0] = far })
			m[fmt.Sprint("last pile ", far)] = changed(func(s *api.Stock) { s.Piles[1] = far })
		}
		if far < 1 || far > api.MaxMachine {
			m[fmt.Sprint("machine ", far)] = changed(func(s *api.Stock) { s.Machines = []int{far} })
			m[fmt.Sprint("first machine ", far)] = changed(func(s *api.Stock) { s.Machines[0] = far })
			m[fmt.Sprint("last machine ", far)] = changed(func(s *api.Stock) { s.Machines[2] = far })
		}
	}
	m["201 pieces"] = changed(func(s *api.Stock) { s.Piles[0] = api.MaxPile + 1 })
	m["201 last pieces"] = changed(func(s *api.Stock) { s.Piles[1] = api.MaxPile + 1 })
	m["a piece less than none"] = changed(func(s *api.Stock) { s.Piles[1] = -1 })
	return m
}

// wrongNotes returns stocks whose notes are not valid, with all else that is, or is not.
func wrongNotes() map[string]api.Stock {
	m := map[string]api.Stock{}
	circle := trial.Register(trial.Assembly(10, 1, 20, 1), trial.Assembly(20, 1, 10, 1), trial.Part(30, 1), trial.Part(30, 2))
	for name, s := range map[string]api.Stock{"good": example(), "zero": {}, "wrong": wrongStocks()["13 machines"]} {
		s.Notes = api.Notes{}
		m["nothing, "+name] = s
		s.Notes = example().Notes
		s.Notes.Notes[1].Number = 101
		m["a number twice, "+name] = s
		s.Notes = api.Notes{Register: circle}
		m["a circle, "+name] = s
		s.Notes = example().Notes
		s.Notes.Register.Issues[2].Items[0].Count = 0
		m["a wrong count, "+name] = s
	}
	return m
}

// P4.1: what is valid is OK, what is not ErrStock; the notes' error comes first.
func TestCheck(t *testing.T) {
	for name, s := range valid() {
		if e := stock.Check(s); e != api.OK {
			t.Error(name, e)
		}
	}
	for name, s := range wrongStocks() {
		if e := stock.Check(s); e != api.ErrStock {
			t.Error(name, e)
		}
	}
	seen := map[api.Errno]bool{}
	for name, s := range wrongNotes() {
		e := stock.Check(s)
		if e == api.OK || e != note.Check(s.Notes) {
			t.Error(name, e)
		}
		seen[e] = true
	}
	if len(seen) != 3 {
		t.Error("not all errors of notes:", seen)
	}
}

// naive tells what Check has to return, as slowly as the chapter does.
func naive(s api.Stock) api.Errno {
	if e := note.Check(s.Notes); e != api.OK {
		return e
	}
	kinds, letters := map[int]uint8{}, map[int]int{}
	for _, x := range s.Notes.Register.Issues {
		kinds[x.Drawing] = x.Kind
		letters[x.Drawing]++
	}
	good := kinds[s.Of] > 0 && (kinds[s.Drawing] == api.KindPart || kinds[s.Drawing] == api.KindStandard)
	good = good && len(s.Piles) == letters[s.Drawing] && len(s.Machines) <= 12
	for _, n := range s.Piles {
		good = good && 0 <= n && n <= 200
	}
	for i, m := range s.Machines {
		good = good && 1 <= m && m <= 999 && !slices.ContainsFunc(s.Machines[:i], func(before int) bool { return before >= m })
	}
	if !good {
		return api.ErrStock
	}
	return api.OK
}

// spoil changes something of a stock, so that it may not be valid any more.
func spoil(rnd *rand.Rand, s *api.Stock) {
	drawings := trial.DrawingsOf(s.Notes)
	other := drawings[rnd.Intn(len(drawings))] + rnd.Intn(8)/7
	switch rnd.Intn(8) {
	case 0:
		s.Of = other
	case 1:
		s.Drawing = other
	case 2:
		s.Drawing = other
		last, _ := sheet.Last(s.Notes.Register, other)
		s.Piles = make([]int, last)
	case 3:
		s.Piles[rnd.Intn(len(s.Piles))] = []int{-1, 0, 200, 201}[rnd.Intn(4)]
	case 4:
		s.Piles = append(s.Piles, 0)
	case 5:
		s.Piles = s.Piles[:rnd.Intn(len(s.Piles)+1)]
	case 6:
		s.Machines = append(s.Machines, []int{0, 500, 999, 1000}[rnd.Intn(4)])
	case 7:
		if len(s.Machines) > 0 {
			s.Machines[rnd.Intn(len(s.Machines))] += rnd.Intn(9) - 4
		}
	}
}

// P4.1: any stocks, and some in which something was changed, are what the chapter tells.
func TestCheckIsNaive(t *testing.T) {
	rnd := rand.New(rand.NewSource(51))
	seen := map[api.Errno]int{}
	for range 6000 {
		s := someStock(rnd, api.MaxPile)
		for range rnd.Intn(3) {
			if len(s.Piles) > 0 {
				spoil(rnd, &s)
			}
		}
		if len(s.Notes.Notes) > 0 && rnd.Intn(10) == 0 {
			s.Notes.Notes[0].From = 0
		}
		e := stock.Check(s)
		if want := naive(s); e != want {
			t.Fatal(s, e, want)
		}
		seen[e]++
	}
	if seen[api.OK] < 1000 || seen[api.ErrStock] < 1000 || seen[api.ErrNotes] < 100 {
		t.Error("few of a kind:", seen)
	}
}

// arguments are all that functions get besides a stock.
type arguments struct {
	signed          []int
	machine, letter int
	plan            [][]int
}

func told[T any](x T, e api.Errno) (string, api.Errno) { return fmt.Sprint(x), e }

// functions returns all functions of the chapter but Check.
func functions() []trial.Function[api.Stock, arguments] {
	return []trial.Function[api.Stock, arguments]{
		trial.Of("Needs", "truth", func(s api.Stock, a arguments) (string, api.Errno) { return told(stock.Needs(s, a.signed)) }),
		trial.Of("May", "truth machine", func(s api.Stock, a arguments) (string, api.Errno) { return told(stock.May(s, a.signed, a.machine)) }),
		trial.Of("Scrap", "truth", func(s api.Stock, a arguments) (string, api.Errno) { return told(stock.Scrap(s, a.signed)) }),
		trial.Of("Plan", "truth", func(s api.Stock, a arguments) (string, api.Errno) { return told(stock.Plan(s, a.signed)) }),
		trial.Of("Made", "truth", func(s api.Stock, a arguments) (string, api.Errno) { return told(stock.Made(s, a.signed)) }),
		trial.Of("Last", "truth letter", func(s api.Stock, a arguments) (string, api.Errno) { return told(stock.Last(s, a.signed, a.letter)) }),
		trial.Of("Proof", "truth", func(s api.Stock, a arguments) (string, api.Errno) { return told(stock.Proof(s, a.signed)) }),
		trial.Of("Left", "truth plan", func(s api.Stock, a arguments) (string, api.Errno) { return told(stock.Left(s, a.signed, a.plan)) }),
		trial.Of("Reach", "", func(s api.Stock, _ arguments) (string, api.Errno) { return told(stock.Reach(s)) }),
		trial.Of("Wish", "", func(s api.Stock, _ arguments) (string, api.Errno) { return told(stock.Wish(s)) }),
	}
}

func isNothing(results string) bool {
	return results == "[]" || results == "0" || results == "{0 0}"
}

// goodPlan returns a plan of the stock of the examples.
func goodPlan() [][]int { return [][]int{{7, 0}, {5, 0}, {0, 3}} }

// P4.1, R1, R2: Check's errors come first, then ErrTruth, then others; nothing else with them.
func TestOrderOfErrors(t *testing.T) {
	good := arguments{machine: 1, letter: 1, plan: goodPlan()}
	bad := arguments{signed: []int{101}, machine: 3, letter: 3, plan: [][]int{{}}}
	for _, of := range []map[string]api.Stock{wrongStocks(), wrongNotes()} {
		other := good
		other.signed = []int{101}
		for _, early := range trial.Early(functions(), of, []arguments{good, bad, {}, other}, stock.Check, isNothing) {
			t.Error(early)
		}
	}
	wrongs := []trial.Wrong[arguments]{
		trial.Badly("truth", func(a *arguments) { a.signed = bad.signed }, api.ErrTruth),
		trial.Badly("machine", func(a *arguments) { a.machine = bad.machine }, api.ErrArg),
		trial.Badly("letter", func(a *arguments) { a.letter = bad.letter }, api.ErrArg),
		trial.Badly("plan", func(a *arguments) { a.plan = bad.plan }, api.ErrPlan),
	}
	for _, wrong := range trial.Disordered(functions(), example(), good, wrongs, isNothing) {
		t.Error(wrong)
	}
}

// P4.1: whatever tells no truth is ErrTruth, also if there are no machines.
func TestWrongTruths(t *testing.T) {
	none := changed(func(s *api.Stock) { s.Machines = nil })
	lists := [][]int{{101}, {102, 102}, {101, 102}, {0, 102}, {102, 0}, {103}, {-102}, {1}, make([]int, 100000)}
	for _, far := range trial.Far() {
		lists = append(lists, []int{far}, []int{102, far}, []int{far, 102})
	}
	for _, f := range functions() {
		for _, signed := range lists {
			a := arguments{signed: signed, letter: 1, plan: goodPlan()}
			if text, e := f.Call(example(), a); f.Has("truth") && (e != api.ErrTruth || !isNothing(text)) || !f.Has("truth") && e != api.OK {
				t.Error(f.Name, len(signed), signed[0], text, e)
			}
			if text, e := f.Call(none, a); f.Has("truth") && (e != api.ErrTruth || !isNothing(text)) || !f.Has("truth") && e != api.OK {
				t.Error("no machines:", f.Name, len(signed), signed[0], text, e)
			}
		}
		for _, signed := range [][]int{nil, {}, {102}} {
			if text, e := f.Call(example(), arguments{signed: signed, letter: 1, plan: goodPlan()}); e != api.OK {
				t.Error(f.Name, signed, text, e)
			}
		}
	}
}

// P4.1, P4.2: indices and letters that there are not are ErrArg; a letter that no machine gets is ErrNone.
func TestWrongNumbers(t *testing.T) {
	for _, far := range append(trial.Far(), 2, 3, 4, 8, 9, 12) {
		if far < 0 || far > 2 {
			if l, e := stock.May(example(), nil, far); len(l) > 0 || e != api.ErrArg {
				t.Error("May", far, l, e)
			}
		}
		if far < 1 || far > 2 {
			if m, e := stock.Last(example(), nil, far); m != 0 || e != api.ErrArg {
				t.Error("Last", far, m, e)
			}
		}
	}
	none := changed(func(s *api.Stock) { s.Machines = nil })
	if l, e := stock.May(none, nil, 0); len(l) > 0 || e != api.ErrArg {
		t.Error(l, e)
	}
	for letter, want := range map[int]api.Errno{0: api.ErrArg, 1: api.ErrNone, 2: api.ErrNone, 3: api.ErrArg} {
		if m, e := stock.Last(none, nil, letter); m != 0 || e != want {
			t.Error(letter, m, e)
		}
	}
	for machine := range api.MaxBuilds {
		if l, e := stock.May(full(), nil, machine); len(l) == 0 || e != api.OK {
			t.Error(machine, l, e)
		}
	}
	for letter := 1; letter <= api.MaxLetter; letter++ {
		if m, e := stock.Last(full(), nil, letter); m == 0 && e != api.ErrNone || m > 0 && e != api.OK {
			t.Error(letter, m, e)
		}
	}
}
