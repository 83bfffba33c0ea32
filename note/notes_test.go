package note_test

import (
	"cmp"
	"fmt"
	"math/rand"
	"slices"

	"blueline/api"
	"blueline/trial"
)

// gives returns a signed note that gives a drawing a letter for some machines.
func gives(number, day, drawing, letter, from, to int) api.Note {
	return api.Note{Number: number, Day: day, Signed: api.KnownYes, Drawing: drawing, Letter: letter, From: from, To: to}
}

// cancels returns a signed note that cancels another one for some machines.
func cancels(number, day, other, from, to int) api.Note {
	return api.Note{Number: number, Day: day, Signed: api.KnownYes, Cancels: other, From: from, To: to}
}

// as returns a note of which so much is known.
func as(known uint8, x api.Note) api.Note {
	x.Signed = known
	return x
}

// noted returns notes with the register of the examples.
func noted(l ...api.Note) api.Notes {
	return api.Notes{Register: trial.Example(), Notes: l}
}

// example returns the notes of the chapter's examples.
func example() api.Notes {
	return noted(
		gives(101, 100, 30, 2, 5, 999),
		as(api.KnownOpen, gives(102, 200, 10, 2, 8, 20)),
		cancels(103, 300, 101, 10, 12),
		gives(104, 400, 30, 1, 15, 15))
}

// changed returns the notes of the examples with a change.
func changed(change func(l []api.Note)) api.Notes {
	n := example()
	change(n.Notes)
	return n
}

// clone returns notes in memory of their own.
func clone(n api.Notes) api.Notes {
	return api.Notes{Register: trial.Clone(n.Register), Notes: slices.Clone(n.Notes)}
}

// lettered returns a register of a part with so many letters.
func lettered(drawing, last int) api.Register {
	var r api.Register
	for k := range last {
		r.Issues = append(r.Issues, trial.Part(drawing, k+1))
	}
	return r
}

// thread returns twelve open and signed notes, each of which cancels the one before it, or another one.
func thread() api.Notes {
	n := api.Notes{Register: lettered(7, 8)}
	for i := range api.MaxNotes {
		x := gives(12-i, i, 7, 8-i*7/11, 1, api.MaxMachine-i)
		if i > 0 && i != 6 {
			x.Cancels = 13 - i
		}
		if i%3 == 1 {
			x.Signed = api.KnownOpen
		}
		n.Notes = append(n.Notes, x)
	}
	return n
}

// valid returns notes of which something is at its end.
func valid() map[string]api.Notes {
	full := api.Notes{Register: lettered(7, 8)}
	for i := range api.MaxNotes {
		full.Notes = append(full.Notes, gives(api.MaxId-i, i, 7, 8-i*7/11, 1+i, 500+i))
	}
	return map[string]api.Notes{
		"the examples": example(), "none": noted(), "empty": {Register: trial.Example(), Notes: []api.Note{}},
		"one part": {Register: lettered(api.MaxId, 1)},
		"12 notes": full, "a thread": thread(),
		"ends":       noted(gives(1, 0, 10, 1, 1, 1), gives(api.MaxId, api.MaxDay, 10, 2, api.MaxMachine, api.MaxMachine)),
		"of one day": noted(gives(1, 5, 10, 1, 1, 2), gives(2, 5, 10, 1, 1, 2), gives(3, 5, 10, 2, 1, 2)),
		"by days":    noted(gives(3, 5, 10, 1, 1, 2), gives(2, 6, 10, 1, 1, 2), gives(1, 7, 10, 2, 1, 2)),
		"5 open": changed(func(l []api.Note) {
			l[0].Signed, l[2].Signed, l[3].Signed = api.KnownOpen, api.KnownOpen, api.KnownOpen
		}),
		"none signed":   noted(as(api.KnownNo, gives(1, 0, 30, 2, 1, 999)), as(api.KnownNo, cancels(2, 0, 1, 5, 6))),
		"gives both":    changed(func(l []api.Note) { l[2].Drawing, l[2].Letter = 10, 2 }),
		"cancels first": changed(func(l []api.Note) { l[3].Cancels = 101 }),
		"all of it":     changed(func(l []api.Note) { l[0].Ways, l[0].UseUp, l[1].Ways, l[1].UseUp = api.WayBoth, true, api.WayOld, true }),
		"way of new":    changed(func(l []api.Note) { l[0].Ways = api.WayNew }),
		"cancels apart": noted(gives(1, 0, 30, 2, 1, 5), cancels(2, 0, 1, 7, 9)),
		"cancels open":  noted(as(api.KnownOpen, gives(1, 0, 30, 2, 1, 9)), as(api.KnownOpen, cancels(2, 0, 1, 3, 4)), as(api.KnownOpen, cancels(3, 0, 2, 4, 5)), as(api.KnownOpen, cancels(4, 0, 2, 3, 3)), as(api.KnownOpen, gives(5, 0, 30, 1, 4, 6))),
		"one for all":   noted(gives(1, 0, 30, 2, 1, api.MaxMachine)),
		"to the end":    noted(gives(1, 0, 30, 2, 998, api.MaxMachine)),
	}
}

// isSigned returns which notes are signed in a truth, as the chapter says it.
func isSigned(n api.Notes, signed []int) map[int]bool {
	m := map[int]bool{}
	for _, x := range n.Notes {
		m[x.Number] = x.Signed == api.KnownYes || slices.Contains(signed, x.Number)
	}
	return m
}

// forceOf returns which notes are in force for a machine, from the last one on.
func forceOf(l []api.Note, signed map[int]bool, machine int) []bool {
	force := make([]bool, len(l))
	for i := len(l) - 1; i >= 0; i-- {
		force[i] = signed[l[i].Number] && l[i].From <= machine && machine <= l[i].To
		for k := i + 1; k < len(l); k++ {
			if force[k] && l[k].Cancels == l[i].Number {
				force[i] = false
			}
		}
	}
	return force
}

// letterOf returns the letter of a drawing for a machine, and by which note it has it.
func letterOf(n api.Notes, signed []int, drawing, machine int) (letter, by int) {
	letter = 1
	for i, in := range forceOf(n.Notes, isSigned(n, signed), machine) {
		if x := n.Notes[i]; in && x.Drawing == drawing {
			letter, by = x.Letter, x.Number
		}
	}
	return letter, by
}

// lettersOf returns the letters of all drawings for a machine.
func lettersOf(n api.Notes, signed []int, machine int) []int {
	var l []int
	for _, d := range drawingsOf(n) {
		letter, _ := letterOf(n, signed, d, machine)
		l = append(l, letter)
	}
	return l
}

// drawingsOf returns the drawings of the register.
func drawingsOf(n api.Notes) []int {
	var l []int
	for _, x := range n.Register.Issues {
		if x.Letter == 1 {
			l = append(l, x.Drawing)
		}
	}
	return l
}

// openOf returns the Numbers of all open notes, in increasing order.
func openOf(n api.Notes) []int {
	var l []int
	for _, x := range n.Notes {
		if x.Signed == api.KnownOpen {
			l = append(l, x.Number)
		}
	}
	slices.Sort(l)
	return l
}

// truthsOf returns all truths, as lists of Numbers.
func truthsOf(n api.Notes) [][]int {
	l := [][]int{nil}
	for _, number := range openOf(n) {
		for _, t := range l {
			l = append(l, append(slices.Clone(t), number))
		}
	}
	return l
}

// machinesOf returns machines, so that all others are as one of them is: all next to an end of a note.
func machinesOf(n api.Notes) []int {
	l := []int{1, api.MaxMachine}
	for _, x := range n.Notes {
		l = append(l, x.From-1, x.From, x.To, x.To+1)
	}
	l = slices.DeleteFunc(l, func(m int) bool { return m < 1 || m > api.MaxMachine })
	slices.Sort(l)
	return slices.Compact(l)
}

// someRegister returns a register with several letters, of drawings that need each other, or do not.
func someRegister(rnd *rand.Rand) api.Register {
	switch rnd.Intn(4) {
	case 0:
		return trial.Example()
	case 1:
		return lettered(1+rnd.Intn(api.MaxId), 1+rnd.Intn(api.MaxLetter))
	case 2:
		return trial.Register(append(lettered(3, 5).Issues, lettered(5, 2).Issues...)...)
	}
	return trial.Register(
		trial.Assembly(2, 1, 4, 1, 6, 2), trial.Assembly(2, 2, 4, 2), trial.Assembly(2, 3, 6, 1, 8, 3),
		trial.Assembly(4, 1, 6, 3, 8, 1), trial.Assembly(4, 2, 8, 2, 9, 1),
		trial.Part(6, 1), trial.Part(6, 2), trial.Part(6, 3), trial.Part(8, 1), trial.Part(8, 2), trial.Standard(9, 1))
}

// someNote returns a note with a Number: for few machines, often, and of an issue of the register, mostly.
func someNote(rnd *rand.Rand, n api.Notes, number int) api.Note {
	top := []int{6, 20, api.MaxMachine}[rnd.Intn(3)]
	x := api.Note{Number: number, Day: rnd.Intn(4), Signed: api.KnownYes, From: 1 + rnd.Intn(top)}
	if rnd.Intn(2) == 0 && len(openOf(n)) < api.MaxOpen {
		x.Signed = api.KnownOpen
	} else if rnd.Intn(8) == 0 {
		x.Signed = api.KnownNo
	}
	x.To = x.From + rnd.Intn(top+1-x.From)
	if rnd.Intn(3) == 0 {
		x.To = api.MaxMachine
	}
	if issue := n.Register.Issues[rnd.Intn(len(n.Register.Issues))]; rnd.Intn(6) > 0 {
		x.Drawing, x.Letter = issue.Drawing, issue.Letter
	}
	if x.Letter >= 2 {
		x.UseUp, x.Ways = rnd.Intn(2) == 0, uint8(rnd.Intn(4))
	}
	return x
}

// someNotes returns any valid notes, with many that cancel, and contradict, each other.
func someNotes(rnd *rand.Rand) api.Notes {
	n := api.Notes{Register: someRegister(rnd)}
	top := []int{api.MaxNotes, 30, api.MaxId}[rnd.Intn(3)]
	for _, number := range rnd.Perm(top)[:min(rnd.Intn(2*api.MaxNotes), api.MaxNotes)] {
		n.Notes = append(n.Notes, someNote(rnd, n, number+1))
	}
	slices.SortFunc(n.Notes, inOrder)
	often := []int{2, 4, 20}[rnd.Intn(3)]
	for i := range n.Notes {
		x := &n.Notes[i]
		if i > 0 && (x.Drawing == 0 || rnd.Intn(often) == 0) {
			x.Cancels = n.Notes[rnd.Intn(i)].Number
		} else if x.Drawing == 0 {
			x.Drawing, x.Letter = n.Register.Issues[0].Drawing, 1
		}
	}
	return n
}

func inOrder(x, y api.Note) int {
	return cmp.Or(cmp.Compare(x.Day, y.Day), cmp.Compare(x.Number, y.Number))
}

// someTruth returns one of the truths.
func someTruth(rnd *rand.Rand, n api.Notes) []int {
	l := truthsOf(n)
	return l[rnd.Intn(len(l))]
}

// text is a text of notes, in which a nil list is as an empty one.
func text(n api.Notes) string { return fmt.Sprint(n) }
