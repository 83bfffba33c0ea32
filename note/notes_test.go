package note_test

import (
	"fmt"
	"slices"

	"blueline/api"
	"blueline/trial"
)

// example returns the notes of the chapter's examples.
func example() api.Notes { return trial.ExampleNotes() }

// changed returns the notes of the examples with a change.
func changed(change func(l []api.Note)) api.Notes {
	n := example()
	change(n.Notes)
	return n
}

// thread returns twelve open and signed notes, each of which cancels the one before it, or another one.
func thread() api.Notes {
	n := api.Notes{Register: trial.Lettered(7, 8)}
	for i := range api.MaxNotes {
		x := trial.Gives(12-i, i, 7, 8-i*7/11, 1, api.MaxMachine-i)
		if i > 0 && i != 6 {
			x.Cancels = 13 - i
		}
		if i%3 == 1 {
			x.Signed = api.KnownOpen
		}
		n.Notes = append(n.Notes, x)
	}
	return n
}

// valid returns notes of which something is at its end.
func valid() map[string]api.Notes {
	full := api.Notes{Register: trial.Lettered(7, 8)}
	for i := range api.MaxNotes {
		full.Notes = append(full.Notes, trial.Gives(api.MaxId-i, i, 7, 8-i*7/11, 1+i, 500+i))
	}
	return map[string]api.Notes{
		"the examples": example(), "none": trial.Noted(), "empty": {Register: trial.Example(), Notes: []api.Note{}},
		"one part": {Register: trial.Lettered(api.MaxId, 1)},
		"12 notes": full, "a thread": thread(),
		"ends":       trial.Noted(trial.Gives(1, 0, 10, 1, 1, 1), trial.Gives(api.MaxId, api.MaxDay, 10, 2, api.MaxMachine, api.MaxMachine)),
		"of one day": trial.Noted(trial.Gives(1, 5, 10, 1, 1, 2), trial.Gives(2, 5, 10, 1, 1, 2), trial.Gives(3, 5, 10, 2, 1, 2)),
		"by days":    trial.Noted(trial.Gives(3, 5, 10, 1, 1, 2), trial.Gives(2, 6, 10, 1, 1, 2), trial.Gives(1, 7, 10, 2, 1, 2)),
		"5 open": changed(func(l []api.Note) {
			l[0].Signed, l[2].Signed, l[3].Signed = api.KnownOpen, api.KnownOpen, api.KnownOpen
		}),
		"none signed":   trial.Noted(trial.As(api.KnownNo, trial.Gives(1, 0, 30, 2, 1, 999)), trial.As(api.KnownNo, trial.Cancels(2, 0, 1, 5, 6))),
		"gives both":    changed(func(l []api.Note) { l[2].Drawing, l[2].Letter = 10, 2 }),
		"cancels first": changed(func(l []api.Note) { l[3].Cancels = 101 }),
		"all of it":     changed(func(l []api.Note) { l[0].Ways, l[0].UseUp, l[1].Ways, l[1].UseUp = api.WayBoth, true, api.WayOld, true }),
		"way of new":    changed(func(l []api.Note) { l[0].Ways = api.WayNew }),
		"cancels apart": trial.Noted(trial.Gives(1, 0, 30, 2, 1, 5), trial.Cancels(2, 0, 1, 7, 9)),
		"cancels open":  trial.Noted(trial.As(api.KnownOpen, trial.Gives(1, 0, 30, 2, 1, 9)), trial.As(api.KnownOpen, trial.Cancels(2, 0, 1, 3, 4)), trial.As(api.KnownOpen, trial.Cancels(3, 0, 2, 4, 5)), trial.As(api.KnownOpen, trial.Cancels(4, 0, 2, 3, 3)), trial.As(api.KnownOpen, trial.Gives(5, 0, 30, 1, 4, 6))),
		"one for all":   trial.Noted(trial.Gives(1, 0, 30, 2, 1, api.MaxMachine)),
		"to the end":    trial.Noted(trial.Gives(1, 0, 30, 2, 998, api.MaxMachine)),
	}
}

// isSigned returns which notes are signed in a truth, as the chapter says it.
func isSigned(n api.Notes, signed []int) map[int]bool {
	m := map[int]bool{}
	for _, x := range n.Notes {
		m[x.Number] = x.Signed == api.KnownYes || slices.Contains(signed, x.Number)
	}
	return m
}

// forceOf returns which notes are in force for a machine, from the last one on.
func forceOf(l []api.Note, signed map[int]bool, machine int) []bool {
	force := make([]bool, len(l))
	for i := len(l) - 1; i >= 0; i-- {
		force[i] = signed[l[i].Number] && l[i].From <= machine && machine <= l[i].To
		for k := i + 1; k < len(l); k++ {
			if force[k] && l[k].Cancels == l[i].Number {
				force[i] = false
			}
		}
	}
	return force
}

// letterOf returns the letter of a drawing for a machine, and by which note it has it.
func letterOf(n api.Notes, signed []int, drawing, machine int) (letter, by int) {
	letter = 1
	for i, in := range forceOf(n.Notes, isSigned(n, signed), machine) {
		if x := n.Notes[i]; in && x.Drawing == drawing {
			letter, by = x.Letter, x.Number
		}
	}
	return letter, by
}

// lettersOf returns the letters of all drawings for a machine.
func lettersOf(n api.Notes, signed []int, machine int) []int {
	var l []int
	for _, d := range trial.DrawingsOf(n) {
		letter, _ := letterOf(n, signed, d, machine)
		l = append(l, letter)
	}
	return l
}

// text is a text of notes, in which a nil list is as an empty one.
func text(n api.Notes) string { return fmt.Sprint(n) }
