package spare_test

import (
	"fmt"
	"math/rand"
	"slices"
	"testing"

	"blueline/api"
	"blueline/built"
	"blueline/spare"
	"blueline/swap"
	"blueline/trial"
)

// wrongDays returns orders of which just the Day is none.
func wrongDays() map[string]api.Order {
	m := map[string]api.Order{}
	for _, far := range append(trial.Far(), api.MaxDay+1, -2) {
		if far < 0 || far > api.MaxDay {
			m[fmt.Sprint("day ", far)] = changed(func(c *api.Order) { c.Day = far })
		}
	}
	return m
}

// wrongRules returns orders whose rules are not valid, with machines that are, on a day, or on none.
func wrongRules() map[string]api.Order {
	m := map[string]api.Order{}
	var many []api.Rule
	for i := range api.MaxRules + 1 {
		many = append(many, rule(1+i, i, "10A", "10B"))
	}
	for name, l := range map[string][]api.Rule{
		"17 rules": many, "a zero rule": {{}}, "a Number twice": {rule(1, 1, "10A", "10B"), rule(1, 2, "10A", "10B")}, "no such issue": {rule(1, 1, "10A", "10C")},
		"days turned": {rule(1, 2, "10A", "10B"), rule(2, 1, "10A", "10B")}, "breaks no rule": {breaks(1, 1, 2)}, "breaks a note": {rule(1, 1, "10A", "10B"), breaks(2, 1, 101)},
	} {
		m[name] = changed(func(c *api.Order) { c.Rules = l })
		m[name+", no day"] = changed(func(c *api.Order) { c.Rules, c.Day = l, -1 })
	}
	return m
}

// wrongBuilt returns orders whose machines are not valid, with all else that is, or is not.
func wrongBuilt() map[string]api.Order {
	m := map[string]api.Order{}
	circle := trial.Register(trial.Assembly(10, 1, 30, 1), trial.Assembly(10, 2, 30, 1), trial.Assembly(30, 1, 10, 1), trial.Assembly(30, 2, 10, 1))
	for name, change := range map[string]func(b *api.Built){
		"nothing": func(b *api.Built) { *b = api.Built{} }, "a circle": func(b *api.Built) { b.Notes = api.Notes{Register: circle} }, "a note twice": func(b *api.Built) { b.Notes.Notes[1].Number = 101 },
		"a machine twice": func(b *api.Built) { b.Machines = []int{4, 6, 9, 9} }, "of nothing": func(b *api.Built) { b.Of = 0 }, "a heap of the last": func(b *api.Built) { b.Heaps[0].Letter = 2 }, "a report of none": func(b *api.Built) { b.Reports[1].Machine = 5 }, "a zero report": func(b *api.Built) { b.Reports[0] = api.Report{} },
	} {
		for other, c := range map[string]api.Order{"": toldExample(), ", wrong rules": wrongRules()["a zero rule"], ", no day": wrongDays()["day -1"]} {
			change(&c.Built)
			m[name+other] = c
		}
	}
	return m
}

// P9.1: what is valid is OK; first comes the error of the machines, then that of the rules, then ErrArg for the Day.
func TestCheck(t *testing.T) {
	for name, c := range valid() {
		if e := spare.Check(c); e != api.OK {
			t.Error(name, e)
		}
	}
	seen := map[api.Errno]bool{}
	for name, c := range wrongBuilt() {
		e := spare.Check(c)
		if seen[e] = true; e == api.OK || e != built.Check(c.Built) {
			t.Error(name, e)
		}
	}
	if len(seen) != 4 {
		t.Error("not all errors of machines:", seen)
	}
	for name, c := range wrongRules() {
		if e := spare.Check(c); e != api.ErrSwaps {
			t.Error(name, e)
		}
	}
	for name, c := range wrongDays() {
		if e := spare.Check(c); e != api.ErrArg {
			t.Error(name, e)
		}
	}
}

// P9.1: any orders, and some in which something was changed, are what the chapter tells.
func TestCheckIsNaive(t *testing.T) {
	rnd := rand.New(rand.NewSource(131))
	seen := map[api.Errno]int{}
	for range 400 {
		c := someOrder(t, rnd)
		if len(c.Rules) > 0 && rnd.Intn(4) == 0 {
			c.Rules[rnd.Intn(len(c.Rules))].Number -= rnd.Intn(4)
		}
		if rnd.Intn(4) == 0 {
			c.Day = []int{-1, api.MaxDay, api.MaxDay + 1, -c.Day}[rnd.Intn(4)]
		}
		switch rnd.Intn(20) {
		case 0:
			c.Built.Machines[0] = 0
		case 1:
			c.Built.Notes.Register.Issues[0].Kind = 0
		}
		want := api.OK
		if e := built.Check(c.Built); e != api.OK {
			want = e
		} else if e := swap.Check(api.Swaps{Notes: c.Built.Notes, Rules: c.Rules}); e != api.OK {
			want = e
		} else if c.Day < 0 || c.Day > 14610 {
			want = api.ErrArg
		}
		if e := spare.Check(c); e != want {
			t.Fatal(c, e, want)
		}
		seen[want]++
	}
	if min(seen[api.OK], seen[api.ErrSwaps], seen[api.ErrArg], seen[api.ErrBuilt], seen[api.ErrRegister]) < 5 {
		t.Error("few of a kind:", seen)
	}
}

// arguments are all that functions get besides orders.
type arguments struct {
	machine, drawing int
	piece            api.Ref
	answers          []api.Answer
}

func told[T any](x T, e api.Errno) (string, api.Errno) { return fmt.Sprint(x), e }

// functions returns all functions of the chapter but Check.
func functions() []trial.Function[api.Order, arguments] {
	return []trial.Function[api.Order, arguments]{
		trial.Of("States", "machine drawing", func(c api.Order, a arguments) (string, api.Errno) { return told(spare.States(c, a.machine, a.drawing)) }),
		trial.Of("Fits", "machine drawing piece", func(c api.Order, a arguments) (string, api.Errno) {
			return told(spare.Fits(c, a.machine, a.drawing, a.piece))
		}),
		trial.Of("Spares", "machine drawing answers", func(c api.Order, a arguments) (string, api.Errno) {
			return told(spare.Spares(c, a.machine, a.drawing, a.answers))
		}),
		trial.Of("Left", "machine drawing answers", func(c api.Order, a arguments) (string, api.Errno) {
			return told(spare.Left(c, a.machine, a.drawing, a.answers))
		}),
		trial.Of("Send", "machine drawing answers", func(c api.Order, a arguments) (string, api.Errno) {
			return told(spare.Send(c, a.machine, a.drawing, a.answers))
		}),
		trial.Of("Questions", "machine drawing", func(c api.Order, a arguments) (string, api.Errno) {
			return told(spare.Questions(c, a.machine, a.drawing))
		}),
		trial.Of("Most", "machine drawing answers", func(c api.Order, a arguments) (string, api.Errno) {
			return told(spare.Most(c, a.machine, a.drawing, a.answers))
		}),
		trial.Of("Ask", "machine drawing answers", func(c api.Order, a arguments) (string, api.Errno) {
			return told(spare.Ask(c, a.machine, a.drawing, a.answers))
		}),
		trial.Of("Kit", "drawing", func(c api.Order, a arguments) (string, api.Errno) { return told(spare.Kit(c, a.drawing)) }),
	}
}

// allBut returns all functions but one.
func allBut(name string) []trial.Function[api.Order, arguments] {
	return slices.DeleteFunc(functions(), func(f trial.Function[api.Order, arguments]) bool { return f.Name == name })
}

func isNothing(results string) bool {
	return results == "[]" || results == "0" || results == "{0 0}"
}

// good returns arguments that are good for the orders of the examples.
func good() arguments { return arguments{9, 30, is("30B"), []api.Answer{yes("102")}} }

// wrongArguments returns how arguments are made wrong ones, in the order in which they are looked at.
func wrongArguments() []trial.Wrong[arguments] {
	return []trial.Wrong[arguments]{
		trial.Badly("machine", func(a *arguments) { a.machine = 5 }, api.ErrArg),
		trial.Badly("drawing", func(a *arguments) { a.drawing = 10 }, api.ErrNone),
		trial.Badly("piece", func(a *arguments) { a.piece = is("30C") }, api.ErrNone),
		trial.Badly("answers", func(a *arguments) { a.answers = []api.Answer{yes("101")} }, api.ErrAnswer),
	}
}

// P9.1, R1, R2: Check's errors come first, then ErrArg, ErrNone, ErrBad, and ErrAnswer; nothing else with them.
func TestOrderOfErrors(t *testing.T) {
	bad := arguments{5, 10, is("10C"), []api.Answer{yes("D")}}
	for _, of := range []map[string]api.Order{wrongBuilt(), wrongRules(), wrongDays()} {
		for _, early := range trial.Early(functions(), of, []arguments{good(), bad, {}}, spare.Check, isNothing) {
			t.Error(early)
		}
	}
	// Either a spare is sent, or something is asked.
	for name, c := range map[string]api.Order{"Ask": example(200), "Send": example(50)} {
		for _, wrong := range trial.Disordered(allBut(name), c, good(), wrongArguments(), isNothing) {
			t.Error(name, wrong)
		}
	}
	for _, wrong := range trial.Disordered(allBut("Ask"), toldExample(), good(), wrongArguments(), isNothing) {
		t.Error("with reports", wrong)
	}
	for _, f := range functions() {
		if text, e := f.Call(valid()["no truth"], good()); e != api.ErrBad || !isNothing(text) {
			t.Error(f.Name, text, e)
		}
		for _, x := range wrongArguments() {
			a, want := good(), api.ErrBad
			x.Make(&a)
			if f.Has(x.Word) && x.Word != "answers" {
				want = x.Error
			}
			if text, e := f.Call(valid()["no truth"], a); e != want || !isNothing(text) {
				t.Error(f.Name, x.Word, text, e)
			}
		}
	}
}

// P9.1 to P9.5: with no states there is nothing to send, and nothing to ask; ErrAnswer comes before ErrNone.
func TestNoStates(t *testing.T) {
	a := arguments{machine: 4, drawing: 40, piece: is("40A")} // The machine 4 has no 40.
	for _, x := range []struct {
		name, want string
		e, answers api.Errno
	}{
		{"States", "[]", api.OK, api.OK}, {"Fits", "0", api.ErrNone, api.ErrNone}, {"Spares", "[]", api.ErrNone, api.ErrAnswer}, {"Left", "[]", api.OK, api.ErrAnswer}, {"Send", "{0 0}", api.ErrNone, api.ErrAnswer},
		{"Questions", "[{102 0} {0 1}]", api.OK, api.OK}, {"Most", "0", api.OK, api.ErrAnswer}, {"Ask", "{0 0}", api.ErrNone, api.ErrAnswer}, {"Kit", "[{40 1}]", api.OK, api.OK},
	} {
		i := slices.IndexFunc(functions(), func(f trial.Function[api.Order, arguments]) bool { return f.Name == x.name })
		f := functions()[i]
		if text, e := f.Call(example(200), a); text != x.want || e != x.e {
			t.Error(x.name, text, e)
		}
		wrong := a
		wrong.answers = []api.Answer{no("B")}
		if _, e := f.Call(example(200), wrong); e != x.answers {
			t.Error(x.name, e)
		}
	}
	// 102 was signed for 6, too, but does not matter for it; 9 has 40 just if it was signed.
	for i, x := range []struct {
		machine, drawing int
		answers          []api.Answer
	}{{6, 40, nil}, {9, 40, []api.Answer{no("102")}}, {9, 40, []api.Answer{no("A")}}, {6, 30, []api.Answer{yes("A"), yes("B")}}, {6, 30, []api.Answer{no("A"), no("B")}}, {6, 30, []api.Answer{yes("102"), yes("B"), no("102")}}} {
		l, e := spare.Left(example(50), x.machine, x.drawing, x.answers)
		spares, f := spare.Spares(example(50), x.machine, x.drawing, x.answers)
		sent, g := spare.Send(example(50), x.machine, x.drawing, x.answers)
		most, h := spare.Most(example(50), x.machine, x.drawing, x.answers)
		q, k := spare.Ask(example(50), x.machine, x.drawing, x.answers)
		if len(l) > 0 || e != api.OK || len(spares) > 0 || f != api.ErrNone || sent != (api.Ref{}) || g != api.ErrNone || most != 0 || h != api.OK || q != (api.Question{}) || k != api.ErrNone {
			t.Error(i, l, e, spares, f, sent, g, most, h, q, k)
		}
	}
}

// P9.1, P9.2: whatever is none of the machines is ErrArg, whatever is no drawing of a part, or no issue, ErrNone.
func TestWrongArguments(t *testing.T) {
	type wrong struct {
		word string
		a    arguments
		e    api.Errno
	}
	var l []wrong
	add := func(word string, e api.Errno, change func(a *arguments)) {
		a := good()
		change(&a)
		l = append(l, wrong{word, a, e})
	}
	for _, far := range append(trial.Far(), 1, 2, 3, 5, 10, 20, 31, 60, 999) {
		add("machine", api.ErrArg, func(a *arguments) { a.machine = far })
		add("drawing", api.ErrNone, func(a *arguments) { a.drawing = far })
		if far != 10 && far != 20 {
			add("piece", api.ErrNone, func(a *arguments) { a.piece.Drawing = far })
		}
		if far != 1 && far != 2 {
			add("piece", api.ErrNone, func(a *arguments) { a.piece.Letter = far })
		}
	}
	for _, x := range []api.Ref{is("10C"), is("20B"), is("40B"), is("50B"), {Drawing: 50}, {}} {
		add("piece", api.ErrNone, func(a *arguments) { a.piece = x })
	}
	for _, x := range l {
		for _, f := range allBut("Ask") {
			text, e := f.Call(example(200), x.a)
			if f.Has(x.word) && (e != x.e || !isNothing(text)) || !f.Has(x.word) && e != api.OK {
				t.Error(f.Name, x, text, e)
			}
		}
		if _, e := spare.Ask(example(50), x.a.machine, x.a.drawing, x.a.answers); x.word != "piece" && e != x.e || x.word == "piece" && e != api.OK {
			t.Error("Ask", x, e)
		}
	}
	// Pieces may be those of assemblies, too.
	for _, word := range []string{"10A", "10B", "20A", "30A", "30B", "40A", "50A"} {
		if _, e := spare.Fits(example(200), 9, 50, is(word)); e != api.OK {
			t.Error(word, e)
		}
	}
}

// P9.3: answers are valid if there are 20 at most, each one of a question, also if one is there twice, or is denied.
func TestWrongAnswers(t *testing.T) {
	check := func(want api.Errno, l ...api.Answer) {
		t.Helper()
		for _, f := range functions() {
			text, e := f.Call(example(50), arguments{6, 30, is("30A"), l})
			if f.Has("answers") && want != api.OK && (e != want || !isNothing(text)) || want == api.OK && e != api.OK && e != api.ErrNone {
				t.Error(f.Name, len(l), l[0], text, e)
			}
		}
	}
	for _, word := range []string{"A", "B", "102"} {
		check(api.OK, yes(word))
		check(api.OK, no(word))
		check(api.OK, slices.Repeat([]api.Answer{no(word)}, api.MaxAnswers)...)
		check(api.ErrAnswer, slices.Repeat([]api.Answer{no(word)}, api.MaxAnswers+1)...)
	}
	for _, word := range []string{"C", "H", "101", "103"} {
		check(api.ErrAnswer, yes(word))
		check(api.ErrAnswer, no(word))
		check(api.ErrAnswer, yes("A"), no("102"), no(word))
		check(api.ErrAnswer, no(word), yes("A"))
	}
	questions := []api.Question{{}, {Note: 102, Letter: 1}, {Note: 102, Letter: 102}, {Note: 1}, {Letter: 102}}
	for _, far := range trial.Far() {
		questions = append(questions, api.Question{Note: far}, api.Question{Letter: far}, api.Question{Note: far, Letter: far})
		if far != 0 {
			questions = append(questions, api.Question{Note: 102, Letter: far}, api.Question{Note: far, Letter: 1})
		}
	}
	for _, x := range questions {
		check(api.ErrAnswer, api.Answer{Question: x})
		check(api.ErrAnswer, api.Answer{Question: x, Yes: true})
		check(api.ErrAnswer, no("A"), api.Answer{Question: x, Yes: true})
	}
}
