package spare_test

import (
	"fmt"
	"math/rand"
	"slices"
	"testing"

	"blueline/api"
	"blueline/built"
	"blueline/spare"
	"blueline/swap"
	"blueline/trial"
)

// P9.2: the examples, and states in the order of truths: those with fewer Numbers first.
func TestStatesExamples(t *testing.T) {
	other := open()
	other.Built.Reports = []api.Report{none(1, 2, 7, 6), has(2, 3, 7, 6)}
	for i, x := range []struct {
		c                api.Order
		machine, drawing int
		want             string
	}{
		{example(200), 6, 30, "30A, 30B, 102 30A, 102 30B"}, {example(200), 9, 40, "102 40A"}, {example(200), 4, 40, ""}, {example(50), 6, 30, "30A, 30B, 102 30A, 102 30B"}, {example(200), 4, 30, "30A, 102 30A"}, {example(200), 9, 50, "50A, 102 50A"},
		{open(), 1, 7, "7A, 20 7A, 30 7D, 40 7C, 50 7B, 20 30 7D, 20 40 7C, 20 50 7B, 30 40 7D, 30 50 7D, 40 50 7C, 20 30 40 7D, 20 30 50 7D, 20 40 50 7C, 30 40 50 7D, 20 30 40 50 7D"},
		{other, 2, 7, "20 7E, 20 30 7E, 20 40 7E, 20 50 7E, 20 30 40 7E, 20 30 50 7E, 20 40 50 7E, 20 30 40 50 7E"}, {other, 3, 7, "20 7F, 20 30 7F, 20 40 7F, 20 50 7F, 20 30 40 7F, 20 30 50 7F, 20 40 50 7F, 20 30 40 50 7F"},
		{open(), 1, 8, ""}, {valid()["a part"], 999, 9999, "9999A"}, {toldExample(), 9, 30, "30A, 30B, 102 30A, 102 30B"},
		{changed(func(c *api.Order) { c.Built.Reports[0] = has(1, 9, 40, 1) }), 9, 30, "102 30A, 102 30B"}, {changed(func(c *api.Order) { c.Built.Reports[0] = none(1, 9, 40, 1) }), 9, 30, "30A, 30B"}, {changed(func(c *api.Order) { c.Built.Reports[0] = none(1, 9, 30, 1) }), 9, 30, "30B, 102 30B"}, {changed(func(c *api.Order) { c.Built.Reports[0] = none(1, 6, 30, 2) }), 6, 30, "30A, 102 30A"},
	} {
		if l, e := spare.States(x.c, x.machine, x.drawing); statesText(l) != x.want || e != api.OK {
			t.Error(i, statesText(l), e)
		}
	}
}

// P9.2: the examples, and pieces of other drawings, and of assemblies.
func TestFitsExamples(t *testing.T) {
	ruled := example(200, rule(1, 50, "40A", "30B"), rule(2, 199, "10B", "30A"), rule(3, 200, "20A", "30A"), rule(4, 200, "20A", "30B"), rule(5, 201, "50A", "30A"))
	for i, x := range []struct {
		c                api.Order
		machine, drawing int
		piece            string
		want             uint8
	}{
		{example(200), 6, 30, "30A", 1}, {example(200), 6, 30, "40A", 0}, {example(200), 6, 30, "30B", 2}, {example(50), 6, 30, "30B", 1}, {example(50), 6, 30, "30A", 1}, {example(50), 4, 30, "30A", 2}, {example(200), 4, 30, "30A", 2}, {example(200), 4, 30, "30B", 0}, {example(99), 6, 30, "30B", 1}, {example(100), 6, 30, "30B", 2},
		{ruled, 6, 30, "40A", 2}, {ruled, 6, 30, "10B", 1}, {ruled, 6, 30, "10A", 0}, {ruled, 6, 30, "20A", 2}, {ruled, 6, 30, "50A", 0}, {ruled, 4, 30, "40A", 0}, {ruled, 4, 30, "10B", 2}, {ruled, 9, 50, "50A", 2}, {ruled, 9, 50, "30A", 0}, {ruled, 9, 40, "40A", 2},
		{open(), 1, 7, "7A", 1}, {open(), 1, 7, "7E", 0}, {open(), 1, 7, "7H", 0}, {open(both(1, 9, "7H", "7A"), rule(2, 9, "7H", "7B"), rule(3, 9, "7H", "7C"), rule(4, 9, "7H", "7D")), 1, 7, "7H", 2},
	} {
		if k, e := spare.Fits(x.c, x.machine, x.drawing, is(x.piece)); k != x.want || e != api.OK {
			t.Error(i, x.piece, k, e)
		}
	}
}

// P9.2, P9.3: the examples, and spares of which none is of the drawing.
func TestSendExamples(t *testing.T) {
	other := example(50, rule(1, 0, "50A", "30A"), rule(2, 50, "50A", "30B"), both(3, 50, "20A", "50A"))
	for i, x := range []struct {
		c                api.Order
		machine, drawing int
		answers          []api.Answer
		spares, sent     string
	}{
		{example(200), 6, 30, nil, "30B", "30B"}, {example(50), 6, 30, nil, "", ""}, {example(50), 4, 30, nil, "30A", "30A"}, {example(50), 6, 30, []api.Answer{no("A")}, "30B", "30B"}, {example(50), 6, 30, []api.Answer{yes("A")}, "30A", "30A"}, {example(50), 6, 30, []api.Answer{yes("102")}, "", ""}, {example(50), 6, 30, []api.Answer{no("102"), yes("B")}, "30B", "30B"},
		{example(200), 6, 30, []api.Answer{yes("A")}, "30A 30B", "30A"}, {example(200), 4, 30, nil, "30A", "30A"}, {example(200, rule(1, 150, "30B", "30A")), 4, 30, nil, "30A 30B", "30A"},
		// Two that are not of the drawing, and with an answer one that is, behind one that is not.
		{other, 6, 30, nil, "20A 50A", "20A"}, {other, 6, 30, []api.Answer{no("A")}, "20A 30B 50A", "30B"}, {other, 9, 50, nil, "20A 50A", "50A"},
		{open(), 1, 7, []api.Answer{yes("30")}, "7D", "7D"}, {open(), 1, 7, []api.Answer{no("30")}, "", ""}, {open(), 1, 7, []api.Answer{no("30"), yes("40")}, "7C", "7C"}, {open(rule(1, 9, "9A", "7D"), rule(2, 9, "8A", "7C"), rule(3, 9, "8A", "9A")), 1, 7, []api.Answer{no("A"), no("B")}, "8A", "8A"},
		{open(rule(1, 9, "7H", "7D"), rule(2, 9, "7G", "7D"), rule(3, 9, "7H", "7C"), rule(4, 9, "7G", "7C")), 1, 7, []api.Answer{no("A"), no("B")}, "7G 7H", "7G"},
	} {
		l, e := spare.Spares(x.c, x.machine, x.drawing, x.answers)
		sent, f := spare.Send(x.c, x.machine, x.drawing, x.answers)
		if issuesText(l) != x.spares || e != api.OK || x.sent == "" && (sent != (api.Ref{}) || f != api.ErrNone) || x.sent != "" && (sent != is(x.sent) || f != api.OK) {
			t.Error(i, issuesText(l), e, sent, f)
		}
	}
}

// model is what the chapter tells of a machine and a drawing: in which states which issues' pieces fit, and which questions there are.
type model struct {
	issues    []api.Ref
	states    []api.State
	fit       [][]bool // by states, then by issues
	questions []api.Question
}

// modelOf returns what the chapter tells.
func modelOf(t *testing.T, c api.Order, machine, drawing int) model {
	t.Helper()
	m := model{issues: trial.IssuesOf(c.Built.Notes), states: statesOf(t, c, machine, drawing)}
	for _, s := range m.states {
		pieces, e := swap.For(api.Swaps{Notes: c.Built.Notes, Rules: c.Rules}, s.Signed, machine, c.Day, s.Issue)
		if e != api.OK {
			t.Fatal(c, machine, s, e)
		}
		var row []bool
		for _, x := range m.issues {
			row = append(row, slices.Contains(pieces, x))
		}
		m.fit = append(m.fit, row)
	}
	for _, number := range trial.OpenOf(c.Built.Notes) {
		m.questions = append(m.questions, api.Question{Note: number})
	}
	for _, x := range m.issues {
		if x.Drawing == drawing {
			m.questions = append(m.questions, api.Question{Letter: x.Letter})
		}
	}
	return m
}

// some returns the indices of the states in which all answers are true.
func (m model) some(answers ...api.Answer) []int {
	var l []int
	for i := range m.states {
		if !slices.ContainsFunc(answers, func(a api.Answer) bool { return m.isTrue(a.Question, i) != a.Yes }) {
			l = append(l, i)
		}
	}
	return l
}

// isTrue reports whether a question is true of a state.
func (m model) isTrue(x api.Question, i int) bool {
	if x.Note != 0 {
		return slices.Contains(m.states[i].Signed, x.Note)
	}
	return m.states[i].Issue.Letter == x.Letter
}

// spares returns all issues whose pieces fit in all of some states.
func (m model) spares(some []int) []api.Ref {
	var l []api.Ref
	for k, x := range m.issues {
		if !slices.ContainsFunc(some, func(i int) bool { return !m.fit[i][k] }) {
			l = append(l, x)
		}
	}
	return l
}

// text is a text of some states.
func (m model) text(some []int) string {
	var l []api.State
	for _, i := range some {
		l = append(l, m.states[i])
	}
	return statesText(l)
}

// someAnswers returns answers, most of which are true of one state; those that are not may be of none.
func (m model) someAnswers(rnd *rand.Rand, most int) []api.Answer {
	var l []api.Answer
	for range rnd.Intn(most + 1) {
		a := api.Answer{Question: m.questions[rnd.Intn(len(m.questions))], Yes: rnd.Intn(2) == 0}
		if len(m.states) > 0 && rnd.Intn(6) > 0 {
			a.Yes = m.isTrue(a.Question, rnd.Intn(1+rnd.Intn(len(m.states))))
		}
		l = append(l, a)
	}
	return l
}

// somePart returns one of the machines, and a drawing of which it may have pieces, mostly.
func somePart(t *testing.T, rnd *rand.Rand, c api.Order) (machine, drawing int) {
	t.Helper()
	machine = c.Built.Machines[rnd.Intn(len(c.Built.Machines))]
	l, e := built.Parts(c.Built, machine)
	if e != api.OK {
		t.Fatal(c, machine, e)
	}
	if len(l) > 0 && rnd.Intn(10) > 0 {
		return machine, l[rnd.Intn(len(l))].Issue.Drawing
	}
	drawings := partDrawings(c)
	return machine, drawings[rnd.Intn(len(drawings))]
}

// checkFits checks Fits of some issues.
func checkFits(t *testing.T, rnd *rand.Rand, c api.Order, machine, drawing int, m model) {
	t.Helper()
	for range 3 {
		k := rnd.Intn(len(m.issues))
		x, count := m.issues[k], 0
		for i := range m.states {
			if m.fit[i][k] {
				count++
			}
		}
		want, e := uint8(api.KnownOpen), api.OK
		switch count {
		case len(m.states):
			want = api.KnownYes
		case 0:
			want = api.KnownNo
		}
		if len(m.states) == 0 {
			want, e = 0, api.ErrNone
		}
		if known, f := spare.Fits(c, machine, drawing, x); known != want || f != e {
			t.Fatal(c, machine, drawing, x, known, f, want, e)
		}
	}
}

// checkSpares checks Left, Spares and Send with answers.
func checkSpares(t *testing.T, c api.Order, machine, drawing int, m model, answers []api.Answer) {
	t.Helper()
	some := m.some(answers...)
	left, e := spare.Left(c, machine, drawing, answers)
	if statesText(left) != m.text(some) || e != api.OK {
		t.Fatal(c, machine, drawing, answers, statesText(left), e, m.text(some))
	}
	spares, e := spare.Spares(c, machine, drawing, answers)
	sent, f := spare.Send(c, machine, drawing, answers)
	if len(some) == 0 {
		if len(spares) > 0 || e != api.ErrNone || sent != (api.Ref{}) || f != api.ErrNone {
			t.Fatal(c, machine, drawing, answers, spares, e, sent, f)
		}
		return
	}
	want := m.spares(some)
	if !slices.Equal(spares, want) || e != api.OK {
		t.Fatal(c, machine, drawing, answers, spares, e, want)
	}
	first, g := api.Ref{}, api.ErrNone
	for _, x := range slices.Backward(want) {
		if first.Drawing != drawing || x.Drawing == drawing {
			first, g = x, api.OK
		}
	}
	if sent != first || f != g {
		t.Fatal(c, machine, drawing, answers, sent, f, first, g)
	}
}

// P9.2, P9.3: states, what fits in them, what answers leave of them, and what is sent, are what the chapter tells, of any orders.
func TestStates(t *testing.T) {
	rnd := rand.New(rand.NewSource(132))
	var counts [6]int // of orders with so many states, or more
	others, nothing, several := 0, 0, 0
	for range 200 {
		c := someOrder(t, rnd)
		machine, drawing := somePart(t, rnd, c)
		m := modelOf(t, c, machine, drawing)
		l, e := spare.States(c, machine, drawing)
		if statesText(l) != statesText(m.states) || e != api.OK {
			t.Fatal(c, machine, drawing, statesText(l), e, statesText(m.states))
		}
		counts[min(5, len(l))]++
		checkFits(t, rnd, c, machine, drawing, m)
		for range 3 {
			answers := m.someAnswers(rnd, 3)
			checkSpares(t, c, machine, drawing, m, answers)
			some := m.some(answers...)
			if spares := m.spares(some); len(some) > 1 && len(spares) == 0 {
				nothing++
			} else if len(some) > 1 && spares[0].Drawing != drawing {
				others++
			} else if len(some) > 1 && len(spares) > 1 {
				several++
			}
		}
	}
	if min(counts[0], counts[1], counts[2], counts[5]) < 8 || min(others, nothing, several) < 12 {
		t.Error("few of a kind:", counts, others, nothing, several)
	}
}

// P9.6: a spare that is sent fits in each truth that is left, in the place of each piece that the machine may have then.
func TestSpareFitsInEachTruth(t *testing.T) {
	rnd := rand.New(rand.NewSource(133))
	checked := 0
	for range 300 {
		c := someOrder(t, rnd)
		machine, drawing := somePart(t, rnd, c)
		sent, e := spare.Send(c, machine, drawing, nil)
		if e != api.OK {
			continue
		}
		truths, e := built.Signed(c.Built)
		if e != api.OK {
			t.Fatal(c, e)
		}
		for _, signed := range truths {
			parts, e := built.Parts(settled(t, c, signed).Built, machine)
			if e != api.OK {
				t.Fatal(c, signed, e)
			}
			for _, x := range parts {
				if x.Issue.Drawing == drawing && !fits(t, c, machine, api.State{Signed: signed, Issue: x.Issue}, sent) {
					t.Fatal(c, machine, drawing, sent, signed, x)
				}
			}
			if len(truths) > 2 {
				checked++
			}
		}
	}
	if checked < 300 {
		t.Error("few are checked:", checked)
	}
}

// P9.10: a piece of the state's own issue fits always: it may be sent if just this state is left.
func TestOwnIssueFits(t *testing.T) {
	rnd := rand.New(rand.NewSource(134))
	for range 100 {
		c := someOrder(t, rnd)
		machine, drawing := somePart(t, rnd, c)
		l, e := spare.States(c, machine, drawing)
		if e != api.OK {
			t.Fatal(c, machine, drawing, e)
		}
		rnd.Shuffle(len(l), func(i, k int) { l[i], l[k] = l[k], l[i] })
		for _, s := range l[:min(3, len(l))] {
			answers := []api.Answer{{Question: api.Question{Letter: s.Issue.Letter}, Yes: true}}
			for _, number := range trial.OpenOf(c.Built.Notes) {
				answers = append(answers, api.Answer{Question: api.Question{Note: number}, Yes: slices.Contains(s.Signed, number)})
			}
			left, e := spare.Left(c, machine, drawing, answers)
			spares, f := spare.Spares(c, machine, drawing, answers)
			if statesText(left) != stateText(s) || e != api.OK || !slices.Contains(spares, s.Issue) || f != api.OK {
				t.Fatal(c, machine, drawing, s, left, e, spares, f)
			}
			if known, e := spare.Fits(c, machine, drawing, s.Issue); known == api.KnownNo || e != api.OK {
				t.Fatal(c, machine, drawing, s, known, e)
			}
		}
	}
}

// P9.11: the order of answers does not matter; one more leaves no more states; both answers of a question together leave all.
func TestAnswers(t *testing.T) {
	rnd := rand.New(rand.NewSource(135))
	less := 0
	for range 100 {
		c := someOrder(t, rnd)
		machine, drawing := somePart(t, rnd, c)
		questions, e := spare.Questions(c, machine, drawing)
		if e != api.OK {
			t.Fatal(c, machine, drawing, e)
		}
		left := func(l ...api.Answer) []string {
			states, e := spare.Left(c, machine, drawing, l)
			if e != api.OK {
				t.Fatal(c, machine, drawing, l, e)
			}
			var words []string
			for _, s := range states {
				words = append(words, stateText(s))
			}
			return words
		}
		var answers []api.Answer
		all := left()
		for range 1 + rnd.Intn(6) {
			x := questions[rnd.Intn(len(questions))]
			yes, no := left(append(answers, api.Answer{Question: x, Yes: true})...), left(append(answers, api.Answer{Question: x})...)
			isYes := func(word string) bool { return slices.Contains(yes, word) }
			if !slices.Equal(slices.DeleteFunc(slices.Clone(all), isYes), no) || slices.ContainsFunc(no, isYes) || len(yes)+len(no) != len(all) {
				t.Fatal(c, machine, drawing, answers, x, all, yes, no)
			}
			if min(len(yes), len(no)) > 0 {
				less++
			}
			answers = append(answers, api.Answer{Question: x, Yes: len(yes) > len(no)})
			all = left(answers...)
			mixed := slices.Clone(answers)
			rnd.Shuffle(len(mixed), func(i, k int) { mixed[i], mixed[k] = mixed[k], mixed[i] })
			if again := left(mixed...); !slices.Equal(again, all) {
				t.Fatal(c, machine, drawing, answers, all, mixed, again)
			}
		}
	}
	if less < 100 {
		t.Error("few leave less:", less)
	}
}

// reported returns an order with a report more, about a machine and one of its drawings mostly, with which some truth is left, and whether there is one.
func reported(t *testing.T, rnd *rand.Rand, c api.Order, machine, drawing int) (api.Order, bool) {
	t.Helper()
	for range 10 {
		x := trial.SomeReport(rnd, c.Built, 1+rnd.Intn(api.MaxId))
		if rnd.Intn(4) > 0 {
			x.Machine, x.Drawing = machine, drawing
		}
		b, e := built.Add(c.Built, x)
		if e != api.OK {
			continue
		}
		if truths, _ := built.Signed(b); len(truths) > 0 {
			c.Built = b
			return c, true
		}
	}
	return c, false
}

// P9.9: one report more adds no state; what fitted in all of them still does, and no more questions are needed.
func TestOneReportMore(t *testing.T) {
	rnd := rand.New(rand.NewSource(136))
	less, fewer := 0, 0
	for range 300 {
		c := someOrder(t, rnd)
		machine, drawing := somePart(t, rnd, c)
		after, more := reported(t, rnd, c, machine, drawing)
		if !more {
			continue
		}
		l, e := spare.States(c, machine, drawing)
		some, f := spare.States(after, machine, drawing)
		if e != api.OK || f != api.OK {
			t.Fatal(c, after, e, f)
		}
		if len(some) == len(l) && rnd.Intn(20) > 0 {
			continue // Most reports do not matter.
		}
		for _, s := range some {
			if !slices.ContainsFunc(l, func(x api.State) bool { return stateText(x) == stateText(s) }) {
				t.Fatal(c, after, s, l)
			}
		}
		most, e := spare.Most(c, machine, drawing, nil)
		now, f := spare.Most(after, machine, drawing, nil)
		if e != api.OK || f != api.OK || now > most {
			t.Fatal(c, after, most, now, e, f)
		}
		issues := trial.IssuesOf(c.Built.Notes)
		for range 4 {
			x := issues[rnd.Intn(len(issues))]
			before, e := spare.Fits(c, machine, drawing, x)
			after, f := spare.Fits(after, machine, drawing, x)
			if len(some) > 0 && (e != api.OK || f != api.OK || before != api.KnownOpen && after != before) {
				t.Fatal(c, after, x, before, after)
			}
		}
		if len(some) < len(l) {
			less++
		}
		if now < most {
			fewer++
		}
	}
	if less < 50 || fewer < 10 {
		t.Error("few of a kind:", less, fewer)
	}
}

// P9.10: with a rule more that breaks none nothing that fitted does not fit, and no more questions are needed.
func TestOneRuleMore(t *testing.T) {
	rnd := rand.New(rand.NewSource(137))
	fewer, fitted := 0, 0
	for range 400 {
		c := someOrder(t, rnd)
		issues := trial.IssuesOf(c.Built.Notes)
		if len(issues) < 2 || len(c.Rules) == api.MaxRules {
			continue
		}
		machine, drawing := somePart(t, rnd, c)
		if own := slices.DeleteFunc(slices.Clone(issues), func(x api.Ref) bool { return x.Drawing != drawing }); len(own) > 1 && rnd.Intn(4) > 0 {
			issues = own
		}
		two := rnd.Perm(len(issues))
		x := api.Rule{Number: 1 + rnd.Intn(api.MaxId), Day: rnd.Intn(1 + c.Day), From: issues[two[0]], To: issues[two[1]], Both: rnd.Intn(4) == 0}
		after := clone(c)
		after.Rules = append(after.Rules, x)
		slices.SortFunc(after.Rules, trial.RuleOrder)
		if swap.Check(api.Swaps{Notes: after.Built.Notes, Rules: after.Rules}) != api.OK {
			continue // The Number is there already.
		}
		most, e := spare.Most(c, machine, drawing, nil)
		now, f := spare.Most(after, machine, drawing, nil)
		if e != api.OK || f != api.OK || now > most {
			t.Fatal(c, after, most, now, e, f)
		}
		if now < most {
			fewer++
		}
		spares, e := spare.Spares(c, machine, drawing, nil)
		if e == api.ErrNone {
			continue
		}
		more, f := spare.Spares(after, machine, drawing, nil)
		if e != api.OK || f != api.OK || slices.ContainsFunc(spares, func(x api.Ref) bool { return !slices.Contains(more, x) }) {
			t.Fatal(c, after, spares, more, e, f)
		}
		if len(more) > len(spares) {
			fitted++
		}
	}
	if fewer < 10 || fitted < 20 {
		t.Error("few of a kind:", fewer, fitted)
	}
}

// P9.2: an order is told by its day, its truths and its machine: rules and notes of other days, truths and machines do not matter.
func TestWhatFitsIsOfTheState(t *testing.T) {
	c := lettered(maybe(trial.Letting(api.WayOld, trial.Gives(1, 5, 7, 2, 2, 2))), trial.Letting(api.WayNew, trial.Gives(2, 6, 7, 3, 3, 3)))
	for i, x := range []struct {
		day, machine int
		piece        string
		want         uint8
	}{
		{5, 2, "7A", 2}, {4, 2, "7A", 1}, {9, 2, "7A", 2}, {5, 2, "7B", 1}, {9, 1, "7A", 2}, {9, 1, "7B", 0}, {9, 3, "7C", 2}, {9, 3, "7B", 0}, {9, 3, "7A", 0}, {5, 3, "7C", 2},
	} {
		c.Day = x.day
		if known, e := spare.Fits(c, x.machine, 7, is(x.piece)); known != x.want || e != api.OK {
			t.Error(i, fmt.Sprint(x), known, e)
		}
	}
}
