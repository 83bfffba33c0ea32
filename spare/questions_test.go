package spare_test

import (
	"fmt"
	"math/rand"
	"slices"
	"strings"
	"testing"

	"blueline/api"
	"blueline/spare"
	"blueline/trial"
)

// P9.4: the examples, and notes in another order than their Numbers; also those that do not matter are asked about.
func TestQuestionsExamples(t *testing.T) {
	for i, x := range []struct {
		c                api.Order
		machine, drawing int
		want             string
	}{
		{example(200), 6, 30, "102 A B"}, {example(50), 4, 30, "102 A B"}, {example(200), 9, 40, "102 A"}, {example(200), 4, 40, "102 A"}, {example(200), 6, 50, "102 A"},
		{open(), 1, 7, "20 30 40 50 A B C D E F G H"}, {open(), 3, 8, "20 30 40 50 A"}, {valid()["a part"], 999, 9999, "A"}, {valid()["no notes"], 4, 30, "A B"}, {full(), 1, 9, "96 97 98 99 100 A B C D E"},
	} {
		l, e := spare.Questions(x.c, x.machine, x.drawing)
		var words []string
		for _, q := range l {
			words = append(words, questionText(q))
		}
		if strings.Join(words, " ") != x.want || e != api.OK {
			t.Error(i, words, e)
		}
	}
}

// P9.4: the examples, and questions of which several are as good, or the first ones are worse.
func TestAskExamples(t *testing.T) {
	same, each := both(3, 9, "7A", "7B"), []api.Rule{rule(1, 9, "8A", "7A"), rule(2, 9, "8A", "7B"), rule(3, 9, "8A", "7C"), rule(4, 9, "9A", "7D"), rule(5, 9, "9A", "7C")}
	for i, x := range []struct {
		c                api.Order
		machine, drawing int
		answers          []api.Answer
		most             int
		ask              string
	}{
		{example(50), 6, 30, nil, 1, "A"}, {example(200), 6, 30, nil, 0, ""}, {example(50), 4, 30, nil, 0, ""}, {example(50), 6, 30, []api.Answer{yes("102")}, 1, "A"}, {example(50), 6, 30, []api.Answer{no("A")}, 0, ""}, {example(50), 6, 40, nil, 0, ""}, {example(50), 9, 40, nil, 0, ""},
		// A by no note, B by 50, C by 40, D by 30: with 20 first one more would be needed, with 40, 50, A or D as many.
		{open(), 1, 7, nil, 3, "30"}, {open(), 1, 7, []api.Answer{no("30")}, 2, "40"}, {open(), 1, 7, []api.Answer{yes("30")}, 0, ""}, {open(), 1, 7, []api.Answer{no("40")}, 2, "30"}, {open(), 1, 7, []api.Answer{yes("40")}, 1, "30"}, {open(), 1, 7, []api.Answer{no("40"), no("30")}, 1, "50"}, {open(), 1, 7, []api.Answer{no("A"), no("D"), yes("20")}, 1, "40"},
		{open(same), 1, 7, nil, 2, "30"}, {open(same), 1, 7, []api.Answer{no("C"), no("D")}, 0, ""}, {open(same), 1, 7, []api.Answer{no("D")}, 1, "40"}, {open(each...), 1, 7, nil, 1, "30"}, {open(each...), 1, 7, []api.Answer{no("A"), no("B")}, 0, ""}, {open(each...), 1, 7, []api.Answer{no("C")}, 1, "30"},
		{open(), 3, 7, []api.Answer{yes("20")}, 1, "E"}, {open(), 3, 7, nil, 4, "20"}, {open(rule(1, 9, "7H", "7E"), rule(2, 9, "7H", "7F"), same), 3, 7, nil, 3, "20"}, {open(), 1, 8, nil, 0, ""},
	} {
		most, e := spare.Most(x.c, x.machine, x.drawing, x.answers)
		q, f := spare.Ask(x.c, x.machine, x.drawing, x.answers)
		if most != x.most || e != api.OK || x.ask == "" && (q != (api.Question{}) || f != api.ErrNone) || x.ask != "" && (q != question(x.ask) || f != api.OK) {
			t.Error(i, most, e, questionText(q), f)
		}
	}
}

// advice is how many questions states need, and the first one of the best.
type advice struct {
	need  int
	first api.Question
}

// advise returns what the chapter tells of some states; what it was asked before is in known.
func (m model) advise(some []int, known map[string]advice) advice {
	name := fmt.Sprint(some)
	if a, isKnown := known[name]; isKnown {
		return a
	}
	var best advice
	if len(some) > 0 && len(m.spares(some)) == 0 {
		for _, x := range m.questions {
			isNot := func(i int) bool { return !m.isTrue(x, i) }
			is := func(i int) bool { return m.isTrue(x, i) }
			yes, no := slices.DeleteFunc(slices.Clone(some), isNot), slices.DeleteFunc(slices.Clone(some), is)
			if len(yes) == 0 || len(no) == 0 {
				continue
			}
			need := 1 + max(m.advise(yes, known).need, m.advise(no, known).need)
			if best.need == 0 || need < best.need {
				best = advice{need, x}
			}
		}
	}
	known[name] = best
	return best
}

// P9.4, P9.8: questions, how many are needed, and which one is the first of the best, are what the chapter tells, of any orders.
func TestAsk(t *testing.T) {
	rnd := rand.New(rand.NewSource(138))
	var counts [12]int
	notes, letters := 0, 0
	for range 300 {
		c := someOrder(t, rnd)
		machine, drawing := somePart(t, rnd, c)
		m, known := modelOf(t, c, machine, drawing), map[string]advice{}
		l, e := spare.Questions(c, machine, drawing)
		if !slices.Equal(l, m.questions) || e != api.OK {
			t.Fatal(c, machine, drawing, l, e, m.questions)
		}
		for k := range 3 {
			answers := m.someAnswers(rnd, k)
			want := m.advise(m.some(answers...), known)
			most, e := spare.Most(c, machine, drawing, answers)
			q, f := spare.Ask(c, machine, drawing, answers)
			if most != want.need || e != api.OK || q != want.first || f == api.OK != (want.need > 0) || f != api.OK && f != api.ErrNone {
				t.Fatal(c, machine, drawing, answers, most, e, q, f, want)
			}
			counts[most]++
			if q.Note > 0 {
				notes++
			} else if q.Letter > 1 {
				letters++
			}
		}
	}
	if min(counts[0], counts[1], counts[2], counts[3]) < 12 || min(notes, letters) < 12 {
		t.Error("few of a kind:", counts, notes, letters)
	}
}

// asks asks what is told to be asked, for as long as something is, and gets answers that are true of a state; it returns them.
func asks(t *testing.T, c api.Order, machine, drawing int, s api.State) []api.Answer {
	t.Helper()
	var answers []api.Answer
	for {
		q, e := spare.Ask(c, machine, drawing, answers)
		if e == api.ErrNone {
			return answers
		}
		isTrue := slices.Contains(s.Signed, q.Note) || q.Note == 0 && q.Letter == s.Issue.Letter
		most, f := spare.Most(c, machine, drawing, answers)
		if e != api.OK || f != api.OK || most == 0 {
			t.Fatal(c, machine, drawing, answers, q, e, most, f)
		}
		answers = append(answers, api.Answer{Question: q, Yes: isTrue})
		if now, e := spare.Most(c, machine, drawing, answers); now >= most || e != api.OK {
			t.Fatal(c, machine, drawing, answers, most, now, e)
		}
	}
}

// P9.7: asked as is told, the questions lead to a spare after as many of them as are told at most, whatever is answered, and it fits in what is true.
func TestQuestionsLeadToASpare(t *testing.T) {
	rnd := rand.New(rand.NewSource(139))
	asked := 0
	for range 150 {
		c := someOrder(t, rnd)
		machine, drawing := somePart(t, rnd, c)
		most, e := spare.Most(c, machine, drawing, nil)
		states, f := spare.States(c, machine, drawing)
		if e != api.OK || f != api.OK {
			t.Fatal(c, e, f)
		}
		rnd.Shuffle(len(states), func(i, k int) { states[i], states[k] = states[k], states[i] })
		for _, s := range states[:min(4, len(states))] {
			answers := asks(t, c, machine, drawing, s)
			sent, e := spare.Send(c, machine, drawing, answers)
			if e != api.OK || len(answers) > most || !fits(t, c, machine, s, sent) {
				t.Fatal(c, machine, drawing, s, answers, most, sent, e)
			}
			asked += len(answers)
		}
	}
	if asked < 150 {
		t.Error("few are asked:", asked)
	}
}

// P9.8: whichever question is asked first, no fewer are needed; with the one that is told no more are.
func TestNoFewerQuestions(t *testing.T) {
	rnd := rand.New(rand.NewSource(140))
	checked := 0
	for range 100 {
		c := someOrder(t, rnd)
		machine, drawing := somePart(t, rnd, c)
		most, e := spare.Most(c, machine, drawing, nil)
		best, f := spare.Ask(c, machine, drawing, nil)
		if e != api.OK || f != api.OK {
			continue
		}
		questions, e := spare.Questions(c, machine, drawing)
		if e != api.OK {
			t.Fatal(c, e)
		}
		isBefore := true
		for _, x := range questions {
			yes, e := spare.Most(c, machine, drawing, []api.Answer{{Question: x, Yes: true}})
			no, f := spare.Most(c, machine, drawing, []api.Answer{{Question: x}})
			need := 1 + max(yes, no)
			if isBefore = isBefore && x != best; e != api.OK || f != api.OK || need < most || x == best && need != most || isBefore && need == most {
				t.Fatal(c, machine, drawing, x, yes, no, best, most)
			}
			checked++
		}
	}
	if checked < 200 {
		t.Error("few are checked:", checked)
	}
}

// P9.5: the examples, and kits of other letters than machines have.
func TestKitExamples(t *testing.T) {
	apart := func(rules ...api.Rule) api.Order {
		c := lettered(trial.Gives(1, 0, 7, 3, 2, 2), trial.Gives(2, 0, 7, 5, 3, 3))
		c.Rules = rules
		return c
	}
	for i, x := range []struct {
		c       api.Order
		drawing int
		want    string
	}{
		{example(200), 30, "30A 30B"}, {example(200, rule(1, 150, "30B", "30A")), 30, "30B"}, {example(149, rule(1, 150, "30B", "30A")), 30, "30A 30B"}, {example(150, both(1, 150, "30B", "30A")), 30, "30A"}, {example(200), 40, "40A"}, {example(200), 50, "50A"}, {example(50), 30, "30A 30B"},
		{valid()["no machines"], 30, ""}, {valid()["another part"], 40, "40A"}, {valid()["another part"], 30, ""}, {open(), 8, ""}, {open(), 7, "7A 7B 7C 7D 7E 7F"},
		// Three machines with A, C and E; 8 fits for each, but is no 7.
		{apart(), 7, "7A 7C 7E"}, {apart(rule(1, 0, "8A", "7A"), rule(2, 0, "8A", "7C"), rule(3, 0, "8A", "7E")), 7, "7A 7C 7E"}, {apart(rule(1, 0, "7H", "7A"), rule(2, 0, "7H", "7C"), rule(3, 0, "7H", "7E")), 7, "7H"}, {apart(rule(1, 0, "7H", "7A"), rule(2, 0, "7H", "7C")), 7, "7E 7H"}, {apart(rule(1, 0, "7H", "7C"), rule(2, 0, "7G", "7C"), rule(3, 0, "7G", "7E"), rule(4, 0, "7H", "7E")), 7, "7A 7G"},
		// A with H, C with D, or E, which is less.
		{apart(rule(1, 0, "7H", "7A"), rule(2, 0, "7H", "7E"), rule(3, 0, "7D", "7C"), rule(4, 0, "7D", "7E"), rule(5, 0, "7B", "7A")), 7, "7A 7D"}, {apart(rule(1, 0, "7E", "7A"), rule(2, 0, "7C", "7A")), 7, "7C 7E"}, {apart(rule(1, 0, "7B", "7A"), rule(2, 0, "7G", "7A"), rule(3, 0, "7B", "7C"), rule(4, 0, "7G", "7E")), 7, "7B 7E"},
	} {
		if l, e := spare.Kit(x.c, x.drawing); issuesText(l) != x.want || e != api.OK {
			t.Error(i, issuesText(l), e)
		}
	}
}

// findsAll reports whether each machine finds a piece that fits among some letters, in each of its states.
func findsAll(models []model, drawing int, letters []int) bool {
	for _, m := range models {
		for _, row := range m.fit {
			found := false
			for k, x := range m.issues {
				found = found || row[k] && x.Drawing == drawing && slices.Contains(letters, x.Letter)
			}
			if !found {
				return false
			}
		}
	}
	return true
}

// P9.5, P9.12: each machine finds in the kit what fits; without any issue of it some does not; no fewer do, nor as many before them.
func TestKit(t *testing.T) {
	rnd := rand.New(rand.NewSource(141))
	var counts [api.MaxLetter + 1]int
	others := 0
	for range 150 {
		c := someOrder(t, rnd)
		_, drawing := somePart(t, rnd, c)
		var models []model
		for _, machine := range c.Built.Machines {
			models = append(models, modelOf(t, c, machine, drawing))
		}
		lists := [][]int{nil}
		for _, x := range trial.PartsOf(c.Built.Notes) {
			for _, l := range lists {
				if x.Drawing == drawing {
					lists = append(lists, append(slices.Clone(l), x.Letter))
				}
			}
		}
		lists = slices.DeleteFunc(lists, func(l []int) bool { return !findsAll(models, drawing, l) })
		slices.SortFunc(lists, func(x, y []int) int {
			if len(x) != len(y) {
				return len(x) - len(y)
			}
			return slices.Compare(x, y)
		})
		var want []api.Ref
		for _, letter := range lists[0] {
			want = append(want, api.Ref{Drawing: drawing, Letter: letter})
		}
		l, e := spare.Kit(c, drawing)
		if !slices.Equal(l, want) || e != api.OK {
			t.Fatal(c, drawing, l, e, want)
		}
		counts[len(l)]++
		if len(lists) > 1 && len(lists[0]) > 0 && len(lists[1]) == len(lists[0]) {
			others++
		}
	}
	if min(counts[0], counts[1], counts[2], counts[3], counts[4], others) < 4 {
		t.Error("few of a kind:", counts, others)
	}
}
