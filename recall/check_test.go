package recall_test

import (
	"fmt"
	"math/rand"
	"slices"
	"testing"

	"blueline/api"
	"blueline/note"
	"blueline/recall"
	"blueline/trial"
)

// wrongPrints returns prints that are not valid, with notes that are.
func wrongPrints() map[string]api.Prints {
	m := map[string]api.Prints{}
	for name, change := range map[string]func(h []api.Holder){
		"an Id twice":        func(h []api.Holder) { h[1].Id = 1 },
		"Ids turned":         func(h []api.Holder) { h[0].Id, h[1].Id = 2, 1 },
		"last Id turned":     func(h []api.Holder) { h[0].Id, h[1].Id, h[2].Id = 1, 3, 2 },
		"from above to":      func(h []api.Holder) { h[0].From = 10 },
		"last from above to": func(h []api.Holder) { h[2].To = 417 },
		"no such drawing":    func(h []api.Holder) { h[1].Drawings[0] = 35 },
		"a drawing twice":    func(h []api.Holder) { h[0].Drawings[1] = 10 },
		"drawings turned":    func(h []api.Holder) { h[2].Drawings[0], h[2].Drawings[1] = 30, 10 },
	} {
		m[name] = changed(func(p *api.Prints) { change(p.Holders) })
	}
	for name, change := range map[string]func(l []api.Print){
		"a Number twice":       func(l []api.Print) { l[1].Number = 1 },
		"last Number twice":    func(l []api.Print) { l[6].Number = 6 },
		"Numbers turned":       func(l []api.Print) { l[0].Number, l[1].Number = 2, 1 },
		"Numbers far apart":    func(l []api.Print) { l[6].Number = 3 },
		"no such letter":       func(l []api.Print) { l[0].Issue.Letter = 3 },
		"no letter":            func(l []api.Print) { l[0].Issue.Letter = 0 },
		"other's letter":       func(l []api.Print) { l[1].Issue.Drawing = 40 },
		"no issue":             func(l []api.Print) { l[6].Issue = api.Ref{} },
		"back before its day":  func(l []api.Print) { l[6].Back = 9 },
		"back on day 0":        func(l []api.Print) { l[0].Back = 0 },
		"back too late":        func(l []api.Print) { l[6].Back = api.MaxDay + 1 },
		"back on day -2":       func(l []api.Print) { l[0].Back = -2 },
		"back on day -1 of -2": func(l []api.Print) { l[0].Day, l[0].Back = -2, -1 },
		"back, and lost":       func(l []api.Print) { l[6].Lost = api.KnownYes },
		"back, perhaps lost":   func(l []api.Print) { l[6].Lost = api.KnownOpen },
		"back soon, and lost":  func(l []api.Print) { l[0].Back, l[0].Lost = 10, api.KnownOpen },
		"to nobody":            func(l []api.Print) { l[2].Holder = 4 },
	} {
		m[name] = changed(func(p *api.Prints) { change(p.Prints) })
	}
	holders, prints, drawings := full(), full(), full()
	holders.Holders = append(holders.Holders, holder(7, 1, 1))
	prints.Prints = append(prints.Prints, sent(31, 5, 1, 1, 1))
	drawings.Holders[0].Drawings = append(drawings.Holders[0].Drawings, 20)
	m["7 holders"], m["31 prints"], m["9 drawings"] = holders, prints, drawings
	m["zero holder"] = api.Prints{Notes: trial.Noted(), Holders: []api.Holder{{}}}
	m["zero print"] = of(1, 1, api.Print{})
	m["nobody's print"] = api.Prints{Notes: trial.Noted(), Prints: []api.Print{sent(1, 1, 1, 30, 1)}}
	m["Id 0's print"] = api.Prints{Notes: trial.Noted(), Prints: []api.Print{sent(1, 1, 0, 30, 1)}}
	for _, far := range trial.Far() {
		addFar(m, far)
	}
	for _, k := range []uint8{3, 4, 128, 255} {
		m[fmt.Sprint("lost ", k)] = changed(func(p *api.Prints) { p.Prints[3].Lost = k })
		m[fmt.Sprint("back, and lost ", k)] = changed(func(p *api.Prints) { p.Prints[6].Lost = k })
	}
	m["machine 1000"] = changed(func(p *api.Prints) { p.Holders[1].To = 1000 })
	m["machines from 1000"] = changed(func(p *api.Prints) { p.Holders[1].From, p.Holders[1].To = 1000, 1000 })
	m["machines to 0"] = changed(func(p *api.Prints) { p.Holders[0].From, p.Holders[0].To = 0, 0 })
	m["day 14611"] = changed(func(p *api.Prints) { p.Prints[0].Day = api.MaxDay + 1 })
	m["back on day 14611"] = changed(func(p *api.Prints) { p.Prints[0].Day, p.Prints[0].Back = api.MaxDay+1, api.MaxDay+1 })
	return m
}

// addFar adds prints with a number that is too far away for what has it.
func addFar(m map[string]api.Prints, far int) {
	isId, isMachine, isDay := 1 <= far && far <= 9999, 1 <= far && far <= 999, 0 <= far && far <= 14610
	for name, x := range map[string]struct {
		isFar  bool
		change func(p *api.Prints)
	}{
		"drawing":        {true, func(p *api.Prints) { p.Holders[0].Drawings[1] = far }},
		"only drawing":   {true, func(p *api.Prints) { p.Holders[1].Drawings[0] = far }},
		"issue":          {true, func(p *api.Prints) { p.Prints[0].Issue.Drawing = far }},
		"letter":         {far != 1, func(p *api.Prints) { p.Prints[6].Issue.Letter = far }},
		"holder":         {true, func(p *api.Prints) { p.Prints[4].Holder = far }},
		"first Id":       {!isId, func(p *api.Prints) { p.Holders, p.Prints = []api.Holder{holder(far, 1, 2, 10)}, nil }},
		"Id with prints": {!isId, func(p *api.Prints) { p.Holders[2].Id, p.Prints[3].Holder, p.Prints[4].Holder = far, far, far }},
		"from":           {!isMachine, func(p *api.Prints) { p.Holders[1].From = far }},
		"to":             {!isMachine, func(p *api.Prints) { p.Holders[0].To = far }},
		"from and to":    {!isMachine, func(p *api.Prints) { p.Holders[2].From, p.Holders[2].To = far, far }},
		"number":         {!isId, func(p *api.Prints) { p.Prints[0].Number = far }},
		"last number":    {!isId, func(p *api.Prints) { p.Prints[6].Number = far }},
		"day":            {!isDay, func(p *api.Prints) { p.Prints[0].Day = far }},
		"day and back":   {!isDay, func(p *api.Prints) { p.Prints[6].Day, p.Prints[6].Back = far, far }},
		"back":           {!isDay && far != api.NotBack, func(p *api.Prints) { p.Prints[6].Back = far }},
	} {
		if x.isFar {
			m[fmt.Sprint(name, " ", far)] = changed(x.change)
		}
	}
}

// wrongNotes returns prints whose notes are not valid, with holders and prints that are, or are not.
func wrongNotes() map[string]api.Prints {
	circle := trial.Register(trial.Assembly(10, 1, 30, 1), trial.Assembly(10, 2, 30, 1), trial.Assembly(30, 1, 10, 1), trial.Assembly(30, 2, 10, 1))
	m := map[string]api.Prints{}
	for name, p := range map[string]api.Prints{"good": example(), "none": {}, "wrong": wrongPrints()["zero print"], "31": wrongPrints()["31 prints"]} {
		p.Notes = api.Notes{}
		m["nothing, "+name] = p
		p.Notes = api.Notes{Register: circle}
		m["a circle, "+name] = p
		p.Notes = trial.ExampleNotes()
		p.Notes.Notes[1].Number = 101
		m["a number twice, "+name] = p
	}
	return m
}

// P7.1: what is valid is OK, what is not ErrPrints; the notes' error comes first.
func TestCheck(t *testing.T) {
	seen := map[api.Errno]bool{}
	for name, p := range valid() {
		if e := recall.Check(p); e != api.OK {
			t.Error(name, e)
		}
	}
	for name, p := range wrongPrints() {
		if e := recall.Check(p); e != api.ErrPrints {
			t.Error(name, e)
		}
	}
	for name, p := range wrongNotes() {
		e := recall.Check(p)
		if seen[e] = true; e == api.OK || e != note.Check(p.Notes) {
			t.Error(name, e)
		}
	}
	if len(seen) != 3 {
		t.Error("not all errors of notes:", seen)
	}
}

// naive tells what Check has to return, as slowly as the chapter does.
func naive(p api.Prints) api.Errno {
	if e := note.Check(p.Notes); e != api.OK {
		return e
	}
	good := len(p.Holders) <= 6 && len(p.Prints) <= 30
	for i, h := range p.Holders {
		good = good && 1 <= h.Id && h.Id <= 9999 && (i == 0 || p.Holders[i-1].Id < h.Id)
		good = good && 1 <= h.From && h.From <= h.To && h.To <= 999 && len(h.Drawings) <= 8
		for k, d := range h.Drawings {
			good = good && slices.Contains(trial.DrawingsOf(p.Notes), d) && (k == 0 || h.Drawings[k-1] < d)
		}
	}
	for i, x := range p.Prints {
		good = good && 1 <= x.Number && x.Number <= 9999 && (i == 0 || p.Prints[i-1].Number < x.Number)
		good = good && 0 <= x.Day && x.Day <= 14610 && x.Lost <= 2
		good = good && slices.ContainsFunc(p.Holders, func(h api.Holder) bool { return h.Id == x.Holder })
		good = good && slices.ContainsFunc(p.Notes.Register.Issues, func(y api.Issue) bool { return x.Issue == ref(y.Drawing, y.Letter) })
		good = good && (x.Back == -1 || x.Day <= x.Back && x.Back <= 14610 && x.Lost == 0)
	}
	if !good {
		return api.ErrPrints
	}
	return api.OK
}

// spoil changes something of prints, so that they may not be valid any more.
func spoil(rnd *rand.Rand, p api.Prints) {
	h, other := &p.Holders[rnd.Intn(len(p.Holders))], p.Holders[rnd.Intn(len(p.Holders))]
	x, y := &p.Prints[rnd.Intn(len(p.Prints))], p.Prints[rnd.Intn(len(p.Prints))]
	switch rnd.Intn(11) {
	case 0:
		h.Id += rnd.Intn(5) - 2
	case 1:
		h.From += rnd.Intn(9) - 4
	case 2:
		h.To += rnd.Intn(9) - 4
	case 3:
		h.Drawings = other.Drawings
	case 4:
		if len(h.Drawings) > 0 {
			h.Drawings[rnd.Intn(len(h.Drawings))] = y.Issue.Drawing
		}
	case 5:
		x.Number += rnd.Intn(5) - 2
	case 6:
		x.Day += rnd.Intn(5) - 2
	case 7:
		x.Holder = other.Id + rnd.Intn(2)
	case 8:
		x.Issue = ref(y.Issue.Drawing, y.Issue.Letter+rnd.Intn(3)-1)
	case 9:
		x.Back = rnd.Intn(8) - 2
	case 10:
		x.Lost = uint8(rnd.Intn(4))
	}
}

// P7.1: any prints, and some in which something was changed, are what the chapter tells.
func TestCheckIsNaive(t *testing.T) {
	rnd := rand.New(rand.NewSource(91))
	seen := map[api.Errno]int{}
	for range 6000 {
		p := somePrints(rnd)
		for range rnd.Intn(3) {
			if len(p.Holders) > 0 && len(p.Prints) > 0 {
				spoil(rnd, p)
			}
		}
		if len(p.Notes.Notes) > 0 && rnd.Intn(10) == 0 {
			p.Notes.Notes[0].From = 0
		}
		e := recall.Check(p)
		if want := naive(p); e != want {
			t.Fatal(p, e, want)
		}
		seen[e]++
	}
	if seen[api.OK] < 1000 || seen[api.ErrPrints] < 1000 || seen[api.ErrNotes] < 100 {
		t.Error("few of a kind:", seen)
	}
}

// arguments are all that functions get besides prints.
type arguments struct {
	day, holder, drawing, machine int
	holders, drawings             []int
	print                         api.Print
}

func told[T any](x T, e api.Errno) (string, api.Errno) { return fmt.Sprint(x), e }

func toldBoth(x, y []int, e api.Errno) (string, api.Errno) { return fmt.Sprint(x, y), e }

// functions returns all functions of the chapter but Check.
func functions() []trial.Function[api.Prints, arguments] {
	return []trial.Function[api.Prints, arguments]{
		trial.Of("Held", "day holder", func(p api.Prints, a arguments) (string, api.Errno) {
			return toldBoth(recall.Held(p, a.day, a.holder))
		}),
		trial.Of("Works", "day holder drawing", func(p api.Prints, a arguments) (string, api.Errno) {
			return told(recall.Works(p, a.day, a.holder, a.drawing))
		}),
		trial.Of("Needs", "holder drawing", func(p api.Prints, a arguments) (string, api.Errno) {
			return told(recall.Needs(p, a.holder, a.drawing))
		}),
		trial.Of("Misses", "day holder", func(p api.Prints, a arguments) (string, api.Errno) {
			return told(recall.Misses(p, a.day, a.holder))
		}),
		trial.Of("Wrong", "day machine holder drawing", func(p api.Prints, a arguments) (string, api.Errno) {
			return told(recall.Wrong(p, a.day, a.holder, a.drawing, a.machine))
		}),
		trial.Of("Stale", "day", func(p api.Prints, a arguments) (string, api.Errno) { return told(recall.Stale(p, a.day)) }),
		trial.Of("Calls", "day", func(p api.Prints, a arguments) (string, api.Errno) { return toldBoth(recall.Calls(p, a.day)) }),
		trial.Of("Proof", "day", func(p api.Prints, a arguments) (string, api.Errno) { return told(recall.Proof(p, a.day)) }),
		trial.Of("Call", "day called about", func(p api.Prints, a arguments) (string, api.Errno) {
			return told(recall.Call(p, a.day, a.holders, a.drawings))
		}),
		trial.Of("Send", "print", func(p api.Prints, a arguments) (string, api.Errno) { return told(recall.Send(p, a.print)) }),
	}
}

func isNothing(results string) bool {
	return results == "[]" || results == "[] []" || results == "0" || results == fmt.Sprint(api.Prints{})
}

// good returns arguments that are good for the prints of the examples.
func good() arguments {
	return arguments{300, 3, 30, 9, []int{3, 1, 3}, []int{40, 30, 40}, sent(8, 5, 1, 10, 2)}
}

// P7.1, R1, R2: Check's errors come first, then ErrArg, then ErrNone; nothing else with them.
func TestOrderOfErrors(t *testing.T) {
	bad := arguments{-1, 4, 35, 1000, []int{1, 4}, []int{10, 35}, sent(8, 5, 4, 10, 2)}
	for _, of := range []map[string]api.Prints{wrongPrints(), wrongNotes()} {
		for _, early := range trial.Early(functions(), of, []arguments{good(), bad, {}}, recall.Check, isNothing) {
			t.Error(early)
		}
	}
	wrongs := []trial.Wrong[arguments]{
		trial.Badly("day", func(a *arguments) { a.day = bad.day }, api.ErrArg),
		trial.Badly("machine", func(a *arguments) { a.machine = bad.machine }, api.ErrArg),
		trial.Badly("holder", func(a *arguments) { a.holder = bad.holder }, api.ErrNone),
		trial.Badly("drawing", func(a *arguments) { a.drawing = bad.drawing }, api.ErrNone),
		trial.Badly("called", func(a *arguments) { a.holders = bad.holders }, api.ErrNone),
		trial.Badly("about", func(a *arguments) { a.drawings = bad.drawings }, api.ErrNone),
		trial.Badly("print", func(a *arguments) { a.print = bad.print }, api.ErrPrints),
	}
	for _, name := range []string{"the examples", "all machines", "5 open"} {
		for _, wrong := range trial.Disordered(functions(), valid()[name], good(), wrongs, isNothing) {
			t.Error(name, wrong)
		}
	}
}

// disagreeing returns the names of all functions that do not return an error just if they take such an argument.
func disagreeing(word string, a arguments, want api.Errno) []string {
	var l []string
	for _, f := range functions() {
		if text, e := f.Call(example(), a); f.Has(word) && (e != want || !isNothing(text)) || !f.Has(word) && e != api.OK {
			l = append(l, fmt.Sprint(f.Name, " ", text, " ", e))
		}
	}
	return l
}

// P7.1: whatever is no day or no machine is ErrArg, and a holder or a drawing that there is not ErrNone, wherever in a list it is.
func TestWrongArguments(t *testing.T) {
	for _, far := range append(trial.Far(), 1000, 14611, 5, 9) {
		isMachine, isDay := 1 <= far && far <= 999, 0 <= far && far <= 14610
		for i, x := range []trial.Wrong[arguments]{
			trial.Badly("day", func(a *arguments) { a.day = far }, api.ErrArg),
			trial.Badly("machine", func(a *arguments) { a.machine = far }, api.ErrArg),
			trial.Badly("holder", func(a *arguments) { a.holder = far }, api.ErrNone),
			trial.Badly("drawing", func(a *arguments) { a.drawing = far }, api.ErrNone),
			trial.Badly("called", func(a *arguments) { a.holders = []int{far} }, api.ErrNone),
			trial.Badly("called", func(a *arguments) { a.holders = []int{1, 2, 3, far} }, api.ErrNone),
			trial.Badly("called", func(a *arguments) { a.holders = []int{far, 1} }, api.ErrNone),
			trial.Badly("about", func(a *arguments) { a.drawings = []int{far} }, api.ErrNone),
			trial.Badly("about", func(a *arguments) { a.drawings = []int{10, 30, far} }, api.ErrNone),
			trial.Badly("about", func(a *arguments) { a.drawings = []int{far, 30} }, api.ErrNone),
		} {
			a := good()
			x.Make(&a)
			if x.Word == "day" && isDay || x.Word == "machine" && isMachine {
				continue
			}
			for _, wrong := range disagreeing(x.Word, a, x.Error) {
				t.Error(i, far, wrong)
			}
		}
	}
}

// P7.1: the ends of what is allowed are.
func TestGoodArguments(t *testing.T) {
	for _, machine := range []int{1, 2, 998, api.MaxMachine} {
		for _, day := range []int{0, 1, 14609, api.MaxDay} {
			for _, d := range []int{10, 20, 30, 40, 50} {
				a := arguments{day: day, holder: 1 + d%3, drawing: d, machine: machine, drawings: []int{d}, print: sent(api.MaxId, day, 1+d%3, d, 1)}
				for _, wrong := range disagreeing("nothing", a, api.OK) {
					t.Error(a, wrong)
				}
			}
		}
	}
}
