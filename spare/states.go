package spare

import (
	"iter"
	"slices"

	"blueline/api"
	"blueline/built"
	"blueline/swap"
)

// inquiry is an order at work for one of the machines: its states, and what may be asked about them.
type inquiry struct {
	desk
	machine   int
	states    []api.State
	questions []asked
}

// set is some of the states of an inquiry: that with the index i, if 1 << i is in it. There are 64 at most: in each of 32 truths a machine has pieces of one letter, and perhaps old ones of the letter before it.
type set uint64

func (s set) has(i int) bool { return s>>i&1 == 1 }

// inquire returns what is known of a machine and a drawing: errors as look.
func inquire(c api.Order, machine, drawing int, pieces ...api.Ref) (inquiry, api.Errno) {
	w, e := look(c, []int{machine}, drawing, pieces...)
	if e != api.OK {
		return inquiry{}, e
	}
	return w.inquiry(machine), api.OK
}

// hear returns what is known of a machine and a drawing, and the states that are left by answers: errors as look; then ErrAnswer unless the answers are valid.
func hear(c api.Order, machine, drawing int, l []api.Answer) (inquiry, set, api.Errno) {
	q, e := inquire(c, machine, drawing)
	if e != api.OK {
		return inquiry{}, 0, e
	}
	left, e := q.left(l)
	if e != api.OK {
		return inquiry{}, 0, e
	}
	return q, left, api.OK
}

func (w desk) inquiry(machine int) inquiry {
	q := inquiry{desk: w, machine: machine, states: slices.Collect(w.statesOf(machine))}
	q.questions = q.allAsked()
	return q
}

// statesOf yields all states of a machine, in order.
func (w desk) statesOf(machine int) iter.Seq[api.State] {
	return func(yield func(api.State) bool) {
		for _, t := range w.truths {
			parts, _ := built.Parts(t.built, machine) // There is no error, as this truth is left.
			for _, x := range parts {
				if x.Issue.Drawing == w.drawing && !yield(api.State{Signed: slices.Clone(t.signed), Issue: x.Issue}) {
					return
				}
			}
		}
	}
}

// all returns all states.
func (q inquiry) all() set { return 1<<len(q.states) - 1 }

// of returns the states of a set, in order.
func (q inquiry) of(some set) []api.State {
	var l []api.State
	for i, s := range q.states {
		if some.has(i) {
			l = append(l, s)
		}
	}
	return l
}

// pieces returns all issues whose pieces fit in a state, in order.
func (q inquiry) pieces(s api.State) []api.Ref {
	l, _ := swap.For(q.swaps, s.Signed, q.machine, q.Day, s.Issue) // There is no error, as all of these were checked.
	return l
}

// fits returns for each issue of the register the states in which its pieces fit.
func (q inquiry) fits() map[api.Ref]set { return fitting(q.issues, q.states, q.pieces) }

// fitting returns for each of some issues the states of which a function tells that its pieces fit there.
func fitting(issues []api.Ref, states []api.State, pieces func(s api.State) []api.Ref) map[api.Ref]set {
	m := map[api.Ref]set{}
	for _, x := range issues {
		m[x] = 0
	}
	for i, s := range states {
		for _, x := range pieces(s) {
			m[x] |= 1 << i
		}
	}
	return m
}

// known returns whether a piece fits in all states, in some, or in none.
func (q inquiry) known(piece api.Ref) uint8 {
	switch q.fits()[piece] {
	case q.all():
		return api.KnownYes
	case 0:
		return api.KnownNo
	}
	return api.KnownOpen
}

// spares returns all issues whose pieces fit in each one of some states, in order.
func (q inquiry) spares(some set) []api.Ref {
	fits := q.fits()
	for x, in := range fits {
		if some&^in != 0 {
			delete(fits, x)
		}
	}
	var l []api.Ref
	for _, x := range q.issues {
		if _, fit := fits[x]; fit {
			l = append(l, x)
		}
	}
	return l
}
