package swap

import (
	"iter"
	"slices"

	"blueline/api"
)

// source is from where steps come.
type source struct {
	steps func(w desk) []api.Step
}

func sources() [2]source {
	return [2]source{{byNotes}, {byRules}}
}

// steps yields all steps, in order.
func (w desk) steps() iter.Seq[api.Step] {
	return func(yield func(api.Step) bool) {
		for _, from := range sources() {
			for _, x := range from.steps(w) {
				if !yield(x) {
					return
				}
			}
		}
	}
}

// stepsBack yields all steps, each one turned round.
func (w desk) stepsBack() iter.Seq[api.Step] {
	return func(yield func(api.Step) bool) {
		for x := range w.steps() {
			if !yield(turned(x)) {
				return
			}
		}
	}
}

// byNotes returns the steps of all notes that are in force.
func byNotes(w desk) []api.Step {
	var l []api.Step
	for _, x := range w.Notes.Notes {
		if !slices.Contains(w.force, x.Number) {
			continue
		}
		old, made := api.Ref{Drawing: x.Drawing, Letter: x.Letter - 1}, api.Ref{Drawing: x.Drawing, Letter: x.Letter}
		step := api.Step{From: old, To: made, Number: x.Number, Note: true}
		l = append(l, thereAndBack(step, x.Ways&api.WayOld != 0, x.Ways&api.WayNew != 0)...)
	}
	return l
}

// byRules returns the steps of all rules that stand.
func byRules(w desk) []api.Step {
	var l []api.Step
	for _, x := range w.rules {
		step := api.Step{From: x.From, To: x.To, Number: x.Number}
		l = append(l, thereAndBack(step, x.From != api.Ref{}, x.Both)...)
	}
	return l
}

// thereAndBack returns a step, if it leads there, and the same one turned round, if it leads back.
func thereAndBack(x api.Step, there, back bool) []api.Step {
	var l []api.Step
	if there {
		l = append(l, x)
	}
	if back {
		l = append(l, turned(x))
	}
	return l
}

func turned(x api.Step) api.Step {
	x.From, x.To = x.To, x.From
	return x
}

// standing returns the rules that stand on a day, in the order of the list.
func (w desk) standing(day int) []api.Rule {
	var l []api.Rule
	broken := map[int]bool{} // by the Numbers of rules
	for i := range len(w.Rules) {
		x := w.Rules[len(w.Rules)-1-i] // Those behind a rule come first, as just they may break it.
		if x.Day > day || broken[x.Number] {
			continue
		}
		broken[x.Breaks] = true
		l = append(l, x)
	}
	slices.Reverse(l)
	return l
}
