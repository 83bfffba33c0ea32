package spare_test

import (
	"fmt"
	"math/rand"
	"slices"
	"testing"

	"blueline/api"
	"blueline/spare"
	"blueline/trial"
)

// R3, R7: a call returns what it does, whatever was called before it, or is called beside it; none panics.
func TestNothingIsRemembered(t *testing.T) {
	lots := []arguments{good(), {6, 30, is("30A"), []api.Answer{no("B")}}, {1, 7, is("7C"), []api.Answer{no("30"), no("A")}}, {machine: -1, drawing: -1}}
	few := valid()
	delete(few, "full")
	var l []func() string
	for _, of := range []map[string]api.Order{valid(), wrongBuilt(), wrongRules(), wrongDays()} {
		for _, c := range of {
			l = append(l, func() string { return spare.Check(c).Error() })
		}
	}
	for _, of := range []map[string]api.Order{few, wrongRules()} {
		l = append(l, trial.Calls(functions(), of, lots)...)
	}
	for _, wrong := range trial.Unsteady(l) {
		t.Error(wrong)
	}
}

// R3: orders that were changed since are others, also if their memory is the same.
func TestChangedSince(t *testing.T) {
	c := example(200, both(1, 150, "50A", "30B"))
	c.Built.Reports = []api.Report{has(1, 9, 50, 1)}
	answers := []api.Answer{no("102")}
	for i, x := range []struct {
		change func()
		want   string
	}{
		{func() {}, "30B 50A, 0, error 0"},
		{func() { c.Rules[0].Day = 201 }, "30B, 0, error 0"},
		{func() { c.Day = 201 }, "30B 50A, 0, error 0"},
		{func() { c.Rules[0].To = is("30A") }, "30B, 0, error 0"},
		{func() { c.Built.Notes.Notes[0].Ways = api.WayBoth }, "30A 30B 50A, 0, error 0"},
		{func() { c.Built.Notes.Notes[0].Ways = api.WayNone }, ", 1, error 0"},
		{func() { answers[0].Question = question("A") }, "30B, 0, error 0"},
		{func() { answers[0].Yes = true }, "30A 50A, 0, error 0"},
		{func() { c.Rules[0].Both = false }, "30A 50A, 0, error 0"},
		{func() { c.Built.Reports[0] = none(1, 9, 30, 1) }, ", 0, error 6"},
		{func() { c.Built.Heaps[0].Count.Hi = 4 }, ", 0, error 80"},
		{func() { c.Built.Heaps[0].Count.Lo = 4 }, ", 0, error 6"},
		{func() { answers[0].Yes = false }, "30B, 0, error 0"},
		{func() { answers[0].Question.Letter = 3 }, ", 0, error 90"},
		{func() { c.Built.Reports[0].Machine, c.Built.Reports[0].Letter = 4, 1 }, ", 0, error 8"},
		{func() { c.Built.Machines[2] = 10 }, ", 0, error 2"},
		{func() { c.Rules[0].Number = 0 }, ", 0, error 50"},
		{func() { c.Built.Notes.Notes[1].Number = 101 }, ", 0, error 30"},
		{func() { c.Built.Notes.Register.Issues[1].Letter = 1 }, ", 0, error 20"},
	} {
		x.change()
		l, e := spare.Spares(c, 9, 30, answers)
		most, _ := spare.Most(c, 9, 30, answers)
		if text := fmt.Sprint(issuesText(l), ", ", most, ", ", e); text != x.want {
			t.Error(i, text, "and not", x.want)
		}
	}
}

// roomy returns an order all of whose lists have memory behind their ends.
func roomy(c api.Order, number int) api.Order {
	return api.Order{Built: trial.RoomyBuilt(c.Built, number), Rules: trial.RoomyRules(c.Rules, number), Day: c.Day}
}

// roomyAnswers returns answers with memory behind their end.
func roomyAnswers(l []api.Answer, number int) []api.Answer {
	return trial.Roomy(l, api.Answer{Question: api.Question{Note: number}, Yes: true})
}

// allOf is a text of all arguments, with what is behind the ends of their lists.
func allOf(c api.Order, a arguments) string {
	return fmt.Sprint(c, a, trial.WholeBuilt(c.Built), trial.WholeList(c.Rules), trial.WholeList(a.answers))
}

// someArguments returns arguments that are good.
func someArguments(t *testing.T, rnd *rand.Rand, c api.Order) arguments {
	t.Helper()
	machine, drawing := somePart(t, rnd, c)
	issues := trial.IssuesOf(c.Built.Notes)
	return arguments{machine, drawing, issues[rnd.Intn(len(issues))], modelOf(t, c, machine, drawing).someAnswers(rnd, 2)}
}

// R3: nothing is written to arguments, nor behind their ends, and what is there does not matter.
func TestArgumentsAreNotWritten(t *testing.T) {
	rnd := rand.New(rand.NewSource(142))
	for range 12 {
		c := someOrder(t, rnd)
		a := someArguments(t, rnd, c)
		for _, number := range append([]int{0, 7}, trial.OpenOf(c.Built.Notes)...) {
			other, b := roomy(c, number), a
			b.answers = roomyAnswers(a.answers, number)
			before := allOf(other, b)
			if texts, again := trial.Texts(functions(), c, a), trial.Texts(functions(), other, b); !slices.Equal(texts, again) {
				t.Fatal(c, a, number, texts, again)
			}
			if e, f := spare.Check(c), spare.Check(other); e != f {
				t.Fatal(c, number, e, f)
			}
			if after := allOf(other, b); after != before {
				t.Fatal(before, "is", after)
			}
		}
	}
}

// scribbleStates writes over states, from the last one on; before, it checks that none was written over with another one.
func scribbleStates(t *testing.T, l []api.State) {
	t.Helper()
	want := statesText(l)
	for i := len(l) - 1; i >= 0; i-- {
		if statesText(l[:i+1]) != want {
			t.Fatal("two lists of a result share memory:", statesText(l), want)
		}
		want = statesText(l[:i])
		trial.Scribble(l[i].Signed, -1)
	}
	trial.Scribble(l, api.State{})
}

// scribbleResults writes over all results.
func scribbleResults(t *testing.T, c api.Order, a arguments) {
	t.Helper()
	states, _ := spare.States(c, a.machine, a.drawing)
	scribbleStates(t, states)
	left, _ := spare.Left(c, a.machine, a.drawing, a.answers)
	scribbleStates(t, left)
	spares, _ := spare.Spares(c, a.machine, a.drawing, a.answers)
	trial.Scribble(spares, api.Ref{Drawing: -1})
	questions, _ := spare.Questions(c, a.machine, a.drawing)
	trial.Scribble(questions, api.Question{Note: -1})
	kit, _ := spare.Kit(c, a.drawing)
	trial.Scribble(kit, api.Ref{Drawing: -1})
}

// R3: what is written to a result is not written to arguments, nor to other results.
func TestResultsAreNew(t *testing.T) {
	rnd := rand.New(rand.NewSource(143))
	for range 40 {
		c := someOrder(t, rnd)
		a := someArguments(t, rnd, c)
		c, a.answers = roomy(c, 3), roomyAnswers(a.answers, 3)
		before := allOf(c, a)
		texts := trial.Texts(functions(), c, a)
		scribbleResults(t, c, a)
		if after := allOf(c, a); after != before {
			t.Fatal(before, "is", after)
		}
		if again := trial.Texts(functions(), c, a); !slices.Equal(again, texts) {
			t.Fatal(again, "and before", texts)
		}
	}
}

// R4: a nil list and an empty one are the same, wherever they are.
func TestNilAndEmpty(t *testing.T) {
	for name, c := range valid() {
		empty := api.Order{Built: trial.EmptyBuilt(c.Built), Rules: append([]api.Rule{}, c.Rules...), Day: c.Day}
		for _, a := range []arguments{{machine: 4, drawing: 30, piece: is("30B")}, {machine: 1, drawing: 7, piece: is("7A")}} {
			b := a
			b.answers = []api.Answer{}
			if texts, again := trial.Texts(functions(), c, a), trial.Texts(functions(), empty, b); !slices.Equal(texts, again) {
				t.Error(name, texts, again)
			}
		}
	}
}

// R5, R6: each day from 0 to the last one is one, and no other number is.
func TestAnyDay(t *testing.T) {
	for day := -300; day < 15000; day += 1 + day*day%7 {
		want := api.ErrArg
		if 0 <= day && day <= 14610 {
			want = api.OK
		}
		if e := spare.Check(changed(func(c *api.Order) { c.Day = day })); e != want {
			t.Error(day, e)
		}
	}
}

// R7: each call ends soon, however much there is of anything.
func TestEnds(t *testing.T) {
	const many = 300000
	var long []api.Rule
	var answers []api.Answer
	for i := range many {
		long = append(long, rule(1+i, 1, "10A", "10B"))
		answers = append(answers, yes("A"))
	}
	for name, c := range map[string]api.Order{"zeros": example(9, make([]api.Rule, many)...), "rules": example(9, long...)} {
		for _, f := range functions() {
			if text, e := f.Call(c, good()); e != api.ErrSwaps || !isNothing(text) {
				t.Error(name, f.Name, e)
			}
		}
	}
	a := good()
	a.answers = answers
	for _, f := range functions() {
		if text, e := f.Call(example(200), a); f.Has("answers") && (e != api.ErrAnswer || !isNothing(text)) {
			t.Error(f.Name, e)
		}
	}
	for range 2 {
		for _, machine := range []int{1, 881} {
			for _, f := range functions() {
				if text, e := f.Call(full(), arguments{machine: machine, drawing: 2, piece: api.Ref{Drawing: 2, Letter: 8}}); e != api.OK && (f.Name != "Send" || e != api.ErrNone) || e == api.OK && isNothing(text) && f.Name != "Spares" && f.Name != "Fits" {
					t.Error(f.Name, machine, text, e)
				}
			}
		}
	}
}

// P9.2, P9.4: with as many truths as there may be there are up to 64 states.
func TestManyStates(t *testing.T) {
	m := modelOf(t, full(), 881, 2)
	if len(m.states) < 40 {
		t.Error("few states:", len(m.states))
	}
	want := m.advise(m.some(), map[string]advice{})
	l, e := spare.States(full(), 881, 2)
	most, f := spare.Most(full(), 881, 2, nil)
	q, g := spare.Ask(full(), 881, 2, nil)
	if statesText(l) != statesText(m.states) || e != api.OK || most != want.need || f != api.OK || q != want.first || g != api.OK {
		t.Error(statesText(l), e, most, f, q, g, want)
	}
	// The open notes are of another drawing: with and without them the first machine has A or B of 7.
	c := lettered(trial.UsingUp(trial.Gives(1, 0, 7, 2, 1, 9)))
	for i := range api.MaxOpen {
		c.Built.Notes.Notes = append(c.Built.Notes.Notes, maybe(trial.Gives(2+i, 0, 8, 1, 1, 9)))
	}
	c.Built.Heaps = []api.Heap{heap(7, 1, 0, 1)}
	for i, x := range []struct {
		rules       []api.Rule
		a, b, other uint8
		most        int
	}{{nil, 1, 1, 0, 1}, {[]api.Rule{rule(1, 0, "7A", "7B")}, 2, 1, 0, 0}, {[]api.Rule{rule(1, 0, "9A", "7B"), rule(2, 0, "9A", "7A")}, 1, 1, 2, 0}} {
		c.Rules = x.rules
		l, e := spare.States(c, 1, 7)
		isA, f := spare.Fits(c, 1, 7, is("7A"))
		isB, g := spare.Fits(c, 1, 7, is("7B"))
		isOther, h := spare.Fits(c, 1, 7, is("9A"))
		most, k := spare.Most(c, 1, 7, nil)
		if len(l) != 64 || e != api.OK || isA != x.a || f != api.OK || isB != x.b || g != api.OK || isOther != x.other || h != api.OK || most != x.most || k != api.OK {
			t.Error(i, len(l), e, isA, f, isB, g, isOther, h, most, k)
		}
		left, e := spare.Left(c, 1, 7, []api.Answer{yes("B"), yes("2"), yes("3"), yes("4"), yes("5"), yes("6")})
		if statesText(left) != "2 3 4 5 6 7B" || e != api.OK {
			t.Error(i, statesText(left), e)
		}
	}
}
