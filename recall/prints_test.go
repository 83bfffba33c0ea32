package recall_test

import (
	"fmt"
	"math/rand"
	"slices"
	"testing"

	"blueline/api"
	"blueline/note"
	"blueline/recall"
	"blueline/trial"
)

// sent returns a print that was sent to a holder, and is out.
func sent(number, day, holder, drawing, letter int) api.Print {
	return api.Print{Number: number, Day: day, Holder: holder, Issue: ref(drawing, letter), Back: api.NotBack}
}

// back returns a print that came back on a day.
func back(day int, x api.Print) api.Print {
	x.Back = day
	return x
}

// lost returns a print of which so much is known: whether it is lost.
func lost(known uint8, x api.Print) api.Print {
	x.Lost = known
	return x
}

// perhaps returns a print that nobody knows to be lost.
func perhaps(x api.Print) api.Print { return lost(api.KnownOpen, x) }

func ref(drawing, letter int) api.Ref { return api.Ref{Drawing: drawing, Letter: letter} }

// holder returns a holder who works for some machines on some drawings.
func holder(id, from, to int, drawings ...int) api.Holder {
	return api.Holder{Id: id, From: from, To: to, Drawings: drawings}
}

// example returns the prints of the chapter's examples.
func example() api.Prints {
	return api.Prints{
		Notes:   trial.ExampleNotes(),
		Holders: []api.Holder{holder(1, 6, 9, 10, 30), holder(2, 16, 999, 30), holder(3, 418, 418, 10, 30)},
		Prints: []api.Print{
			sent(1, 10, 1, 30, 1), sent(2, 120, 1, 30, 2), sent(3, 10, 2, 30, 1), perhaps(sent(4, 10, 3, 30, 1)),
			sent(5, 10, 3, 10, 1), sent(6, 210, 1, 10, 2), back(205, sent(7, 10, 1, 10, 1)),
		},
	}
}

// changed returns the prints of the examples with a change.
func changed(change func(p *api.Prints)) api.Prints {
	p := example()
	change(&p)
	return p
}

// of returns the prints of the examples with other ones of a holder with the Id 1, who works for some machines on all drawings.
func of(from, to int, l ...api.Print) api.Prints {
	return api.Prints{Notes: trial.ExampleNotes(), Holders: []api.Holder{holder(1, from, to, 10, 20, 30, 40, 50)}, Prints: l}
}

// full returns prints with as many issues, notes, holders and prints as there may be, and truths that matter.
func full() api.Prints {
	var p api.Prints
	for i := range api.MaxIssues {
		p.Notes.Register.Issues = append(p.Notes.Register.Issues, trial.Part(1+i/3, 1+i%3))
	}
	for i := range api.MaxNotes {
		x := trial.Gives(100-i, i, 1+i%4, 2+i/4%2, 1+50*i, 500+40*i)
		if i < api.MaxOpen {
			x.Signed = api.KnownOpen
		}
		p.Notes.Notes = append(p.Notes.Notes, x)
	}
	for i := range api.MaxHolders {
		p.Holders = append(p.Holders, holder(1+i, 1, api.MaxMachine, 1, 2, 3, 4, 5, 6, 7+i, 14+i))
	}
	for i := range api.MaxPrints {
		p.Prints = append(p.Prints, sent(1+i, i, 1+i%6, 1+i%7, 1+i%3))
	}
	return p
}

// valid returns prints of which something is at its end.
func valid() map[string]api.Prints {
	return map[string]api.Prints{
		"the examples": example(), "full": full(),
		"none":       {Notes: trial.Noted()},
		"no prints":  changed(func(p *api.Prints) { p.Prints = nil }),
		"a part":     {Notes: api.Notes{Register: trial.Lettered(api.MaxId, 1)}, Holders: []api.Holder{holder(api.MaxId, 1, 1, api.MaxId)}, Prints: []api.Print{sent(api.MaxId, 0, api.MaxId, api.MaxId, 1)}},
		"no drawing": {Notes: trial.Noted(), Holders: []api.Holder{holder(5, 9, 9)}, Prints: []api.Print{sent(1, 5, 5, 30, 2)}},
		"all machines": changed(func(p *api.Prints) {
			for i := range p.Holders {
				p.Holders[i].From, p.Holders[i].To = 1, api.MaxMachine
			}
		}),
		"ends":           of(999, 999, back(0, sent(1, 0, 1, 10, 1)), back(api.MaxDay, sent(2, 0, 1, 10, 2)), back(api.MaxDay, sent(3, api.MaxDay, 1, 30, 1)), lost(api.KnownYes, sent(api.MaxId, api.MaxDay, 1, 30, 2))),
		"the same again": of(1, 1, sent(1, 5, 1, 30, 1), sent(2, 5, 1, 30, 1), perhaps(sent(3, 5, 1, 30, 1)), lost(api.KnownYes, sent(4, 5, 1, 30, 1)), back(5, sent(5, 5, 1, 30, 1))),
		"days turned":    of(1, 4, sent(1, 9, 1, 30, 2), sent(2, 8, 1, 30, 1), sent(7, 1, 1, 10, 2)),
		"works on other": changed(func(p *api.Prints) { p.Holders[0].Drawings, p.Holders[1].Drawings = []int{20, 50}, nil }),
		"5 open": changed(func(p *api.Prints) {
			l := p.Notes.Notes
			l[0].Signed, l[2].Signed, l[3].Signed = api.KnownOpen, api.KnownOpen, api.KnownOpen
		}),
	}
}

// somePrints returns any valid prints; their days are from 0 to 6.
func somePrints(rnd *rand.Rand) api.Prints {
	p := api.Prints{Notes: trial.SomeNotes(rnd)}
	top := []int{12, 25, api.MaxMachine}[rnd.Intn(3)]
	for _, id := range someNumbers(rnd, rnd.Intn(api.MaxHolders+1)) {
		from := 1 + rnd.Intn(top)
		h := holder(id, from, from+rnd.Intn(top+1-from))
		for _, d := range trial.DrawingsOf(p.Notes) {
			if rnd.Intn(4) > 0 && len(h.Drawings) < api.MaxWorks {
				h.Drawings = append(h.Drawings, d)
			}
		}
		p.Holders = append(p.Holders, h)
	}
	if len(p.Holders) > 0 {
		p.Prints = printsOf(rnd, p, rnd.Intn(api.MaxPrints+1))
	}
	return p
}

// crowd returns prints with holders who work on many drawings, most of whose prints are stale.
func crowd(rnd *rand.Rand, count int) api.Prints {
	var p api.Prints
	drawings := 1 + rnd.Intn(api.MaxWorks)
	for d := range drawings {
		p.Notes.Register.Issues = append(p.Notes.Register.Issues, trial.Lettered(10+d, 3).Issues...)
	}
	for _, id := range someNumbers(rnd, 1+rnd.Intn(api.MaxHolders)) {
		p.Holders = append(p.Holders, holder(id, 1, 9, trial.DrawingsOf(p.Notes)...))
	}
	p.Prints = printsOf(rnd, p, count)
	return p
}

// someNumbers returns so many numbers, in increasing order, no one twice.
func someNumbers(rnd *rand.Rand, count int) []int {
	l := rnd.Perm([]int{count, 2 * count, api.MaxId}[rnd.Intn(3)])[:count]
	for i := range l {
		l[i]++
	}
	slices.Sort(l)
	return l
}

// printsOf returns so many prints of some issues, to some of the holders.
func printsOf(rnd *rand.Rand, p api.Prints, count int) []api.Print {
	var l []api.Print
	for _, number := range someNumbers(rnd, count) {
		issue, h := p.Notes.Register.Issues[rnd.Intn(len(p.Notes.Register.Issues))], p.Holders[rnd.Intn(len(p.Holders))]
		x := sent(number, rnd.Intn(6), h.Id, issue.Drawing, issue.Letter)
		switch rnd.Intn(7) {
		case 0:
			x.Back = x.Day + rnd.Intn(7-x.Day)
		case 1:
			x.Lost = api.KnownYes
		case 2, 3:
			x.Lost = api.KnownOpen
		}
		l = append(l, x)
	}
	return l
}

// clone returns prints in memory of their own.
func clone(p api.Prints) api.Prints {
	p.Notes, p.Holders, p.Prints = trial.CloneNotes(p.Notes), slices.Clone(p.Holders), slices.Clone(p.Prints)
	for i, h := range p.Holders {
		p.Holders[i].Drawings = slices.Clone(h.Drawings)
	}
	return p
}

// isOut reports whether a print is out on a day, as the chapter says it.
func isOut(x api.Print, day int) bool {
	if x.Day > day || x.Lost == api.KnownYes {
		return false
	}
	return x.Back == api.NotBack || x.Back > day
}

// heldBy returns the prints that a holder has on a day, for sure, and perhaps.
func heldBy(p api.Prints, day, id int) (sure, open []api.Print) {
	for _, x := range p.Prints {
		switch {
		case x.Holder != id || !isOut(x, day):
		case x.Lost == api.KnownNo:
			sure = append(sure, x)
		default:
			open = append(open, x)
		}
	}
	return sure, open
}

// numbers returns the Numbers of prints.
func numbers(l []api.Print) []int {
	var n []int
	for _, x := range l {
		n = append(n, x.Number)
	}
	return n
}

// needsOf returns the letters of a drawing that a holder needs: all that are possible for any of the holder's machines.
func needsOf(t *testing.T, p api.Prints, h api.Holder, drawing int) []int {
	t.Helper()
	if !slices.Contains(h.Drawings, drawing) {
		return nil
	}
	var l []int
	for _, m := range append(trial.MachinesOf(p.Notes), h.From) {
		if h.From <= m && m <= h.To {
			l = append(l, possible(t, p, drawing, m)...)
		}
	}
	slices.Sort(l)
	return slices.Compact(l)
}

// possible returns all letters that a drawing may have for a machine.
func possible(t *testing.T, p api.Prints, drawing, machine int) []int {
	t.Helper()
	l, e := note.Possible(p.Notes, drawing, machine)
	if e != api.OK {
		t.Fatal(p, drawing, machine, e)
	}
	return l
}

// holderOf returns the holder with an Id.
func holderOf(p api.Prints, id int) api.Holder {
	return p.Holders[slices.IndexFunc(p.Holders, func(h api.Holder) bool { return h.Id == id })]
}

// staleOf returns all prints that are stale on a day, as the chapter says it.
func staleOf(t *testing.T, p api.Prints, day int) []api.Print {
	t.Helper()
	var l []api.Print
	for _, x := range p.Prints {
		h := holderOf(p, x.Holder)
		if isOut(x, day) && slices.Contains(h.Drawings, x.Issue.Drawing) && !slices.Contains(needsOf(t, p, h, x.Issue.Drawing), x.Issue.Letter) {
			l = append(l, x)
		}
	}
	return l
}

// Prints that are made for tests are valid.
func TestPrints(t *testing.T) {
	rnd := rand.New(rand.NewSource(90))
	for range 500 {
		for _, p := range []api.Prints{somePrints(rnd), crowd(rnd, rnd.Intn(api.MaxPrints+1))} {
			if recall.Check(p) != api.OK || fmt.Sprint(clone(p)) != fmt.Sprint(p) {
				t.Fatal(p)
			}
		}
	}
}
