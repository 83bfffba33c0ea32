package spare_test

import (
	"fmt"
	"math/rand"
	"slices"
	"strings"
	"testing"

	"blueline/api"
	"blueline/built"
	"blueline/note"
	"blueline/spare"
	"blueline/swap"
	"blueline/trial"
)

// Short names of what is in nearly every test.
var (
	is, all               = trial.Is, trial.AreAll
	issueText, issuesText = trial.IssueText, trial.IssuesText
	rule, both, breaks    = trial.Rule, trial.BothWays, trial.Breaks
	heap, has, none       = trial.Heap, trial.Has, trial.None
)

// maybe returns a note that nobody knows to be signed.
func maybe(x api.Note) api.Note { return trial.As(api.KnownOpen, x) }

// exampleNotes returns the notes of the chapter's examples.
func exampleNotes() api.Notes {
	return trial.Noted(trial.Letting(api.WayNew, trial.UsingUp(trial.Gives(101, 100, 30, 2, 5, 999))), maybe(trial.Gives(102, 200, 10, 2, 8, 20)))
}

// example returns the order of the chapter's examples, on a day.
func example(day int, rules ...api.Rule) api.Order {
	b := api.Built{Notes: exampleNotes(), Of: 10, Machines: []int{4, 6, 9}, Heaps: []api.Heap{heap(30, 1, 5, 9)}}
	return api.Order{Built: b, Rules: rules, Day: day}
}

// told returns the order of the examples on the day 200, with a report of each kind, and rules.
func toldExample() api.Order {
	c := example(200, rule(1, 50, "40A", "30B"), both(2, 150, "50A", "40A"), breaks(3, 300, 2))
	c.Built.Reports = []api.Report{has(1, 9, 30, 2), none(2, 4, 40, 1), trial.All(7, 4, 50, 1)}
	return c
}

// changed returns that order with a change.
func changed(change func(c *api.Order)) api.Order {
	c := toldExample()
	change(&c)
	return c
}

// lettered returns an order of machines that are pieces of the part 7 themselves, which has as many letters as there may be, by notes.
func lettered(l ...api.Note) api.Order {
	n := api.Notes{Register: trial.Register(append(trial.Lettered(7, api.MaxLetter).Issues, trial.Standard(8, 1), trial.Part(9, 1))...), Notes: l}
	return api.Order{Built: api.Built{Notes: n, Of: 7, Machines: []int{1, 2, 3}}}
}

// open returns an order of machines that may have nearly each letter of 7: B to E by open notes, the later one first, and A by none; from 2 on with old pieces.
func open(rules ...api.Rule) api.Order {
	c := lettered(maybe(trial.Gives(50, 0, 7, 2, 1, 9)), maybe(trial.Gives(40, 1, 7, 3, 1, 9)), maybe(trial.Gives(30, 2, 7, 4, 1, 9)), maybe(trial.UsingUp(trial.Gives(20, 3, 7, 6, 2, 9))))
	c.Built.Heaps, c.Rules, c.Day = []api.Heap{heap(7, 5, 0, 2)}, rules, 9
	return c
}

// full returns an order with as much of all things as there may be: machines with 8 letters of 2, in 32 truths.
func full() api.Order {
	var items []int
	var r api.Register
	for i := range api.MaxItems {
		items = append(items, 2+i, 1+i)
	}
	for k := range 3 {
		r.Issues = append(r.Issues, trial.Assembly(1, 1+k, items...))
	}
	for _, d := range []int{2, 3, 4, 5, 6, 7} {
		r.Issues = append(r.Issues, trial.Lettered(d, api.MaxLetter).Issues...)
	}
	r.Issues = append(append(r.Issues, trial.Lettered(8, 4).Issues...), trial.Lettered(9, 5).Issues...)
	b := api.Built{Notes: api.Notes{Register: r}, Of: 1}
	for i := range api.MaxNotes {
		x := trial.UsingUp(trial.Gives(100-i, i, 3+i%4, 2+i/4%2, 1, 999))
		if i < api.MaxOpen {
			x = maybe(trial.UsingUp(trial.Gives(100-i, i, 2, []int{2, 4, 6, 8, 3}[i], 1+i, 999)))
		}
		b.Notes.Notes = append(b.Notes.Notes, x)
	}
	for i := range api.MaxBuilds {
		b.Machines = append(b.Machines, 1+80*i)
	}
	for i := range api.MaxHeaps {
		b.Heaps = append(b.Heaps, heap(2, 1+2*i, 0, api.MaxPile))
	}
	for i := range api.MaxReports {
		b.Reports = append(b.Reports, none(1+i, b.Machines[i], 6+i%4, 3))
	}
	c := api.Order{Built: b, Day: api.MaxDay}
	for i := range api.MaxRules {
		c.Rules = append(c.Rules, api.Rule{Number: 1 + i, Day: i, From: api.Ref{Drawing: 4, Letter: 1 + i%8}, To: api.Ref{Drawing: 5 + i/8, Letter: 1 + i%8}, Both: i%2 == 0})
	}
	return c
}

// valid returns orders of which something is at its end.
func valid() map[string]api.Order {
	return map[string]api.Order{
		"the examples": example(200), "early": example(50), "with a rule": example(200, rule(1, 150, "30B", "30A")), "with reports": toldExample(), "open": open(), "open, with rules": open(both(1, 9, "7A", "7H"), rule(2, 9, "8A", "7D")), "full": full(),
		"no machines":   changed(func(c *api.Order) { c.Built.Machines, c.Built.Reports = nil, nil }),
		"no heaps":      changed(func(c *api.Order) { c.Built.Heaps = nil }),
		"no notes":      changed(func(c *api.Order) { c.Built.Notes.Notes = nil; c.Built.Reports = nil }),
		"no rules":      changed(func(c *api.Order) { c.Rules = nil }),
		"the first day": changed(func(c *api.Order) { c.Day = 0 }),
		"the last day":  changed(func(c *api.Order) { c.Day = api.MaxDay }),
		"no truth":      changed(func(c *api.Order) { c.Built.Reports[0] = has(1, 4, 30, 2) }),
		"a part":        {Built: api.Built{Notes: api.Notes{Register: trial.Lettered(api.MaxId, 1)}, Of: api.MaxId, Machines: []int{999}}},
		"another part":  changed(func(c *api.Order) { c.Built.Of, c.Built.Reports = 40, nil }),
	}
}

// someReports returns reports, with all of which some truth is left.
func someReports(t *testing.T, rnd *rand.Rand, b api.Built) []api.Report {
	t.Helper()
	most := []int{1, 3, 1 + api.MaxReports}[rnd.Intn(3)]
	for _, number := range trial.SomeNumbers(rnd, rnd.Intn(most)) {
		b.Reports = append(b.Reports, trial.SomeReport(rnd, b, number))
	}
	wrong, e := built.Withdraw(b)
	if e != api.OK {
		t.Fatal(b, e)
	}
	return slices.DeleteFunc(b.Reports, func(r api.Report) bool { return slices.Contains(wrong, r.Number) })
}

// openLetters returns an order of machines that are pieces of a part with several letters, or of an assembly that needs it, with open notes that give it letters; few of these are for each other's places.
func openLetters(rnd *rand.Rand) api.Order {
	last := 2 + rnd.Intn(7)
	r := trial.Register(append([]api.Issue{trial.Assembly(3, 1, 5, 1+rnd.Intn(3)), trial.Assembly(3, 2, 5, 2, 6, 1)}, append(trial.Lettered(5, last).Issues, trial.Part(6, 1), trial.Standard(8, 1))...)...)
	b := api.Built{Notes: api.Notes{Register: r}, Of: []int{3, 3, 5}[rnd.Intn(3)]}
	known, often := rnd.Intn(3), []int{3, 12}[rnd.Intn(2)]
	for i, number := range rnd.Perm(30)[:known+1+rnd.Intn(api.MaxOpen)] {
		x := trial.Gives(1+number, i, 5, 1+rnd.Intn(last), 1+rnd.Intn(3), 9)
		if rnd.Intn(6) == 0 {
			x.Drawing, x.Letter = 3, 2
		}
		if x.UseUp = x.Letter > 1 && rnd.Intn(2) == 0; x.Letter > 1 && rnd.Intn(often) == 0 {
			x.Ways = uint8(rnd.Intn(4))
		}
		if i >= known {
			x = maybe(x)
		}
		b.Notes.Notes = append(b.Notes.Notes, x)
	}
	for i := range last - 1 {
		if len(b.Heaps) < api.MaxHeaps && rnd.Intn(3) == 0 {
			lo := rnd.Intn(6)
			b.Heaps = append(b.Heaps, heap(5, 1+i, lo, lo+rnd.Intn(5)))
		}
	}
	for m := range 7 {
		if rnd.Intn(2) == 0 {
			b.Machines = append(b.Machines, 1+m)
		}
	}
	rules := trial.SomeRules(rnd, b.Notes)
	return api.Order{Built: b, Rules: rules[:min(len(rules), rnd.Intn(1+rnd.Intn(5)))], Day: rnd.Intn(7)}
}

// anyOrder returns an order with machines, notes and rules of all kinds.
func anyOrder(rnd *rand.Rand) api.Order {
	b := trial.SomeBuilt(rnd)
	if rnd.Intn(2) == 0 {
		for i := range b.Notes.Notes {
			b.Notes.Notes[i].Ways = api.WayNone
		}
	}
	rules := trial.SomeRules(rnd, b.Notes)
	return api.Order{Built: b, Rules: rules[:min(len(rules), rnd.Intn(1+rnd.Intn(api.MaxRules)))], Day: rnd.Intn(6)}
}

// someOrder returns any valid order with machines of which some truth is left; the days of its notes and rules, and its Day, are near each other.
func someOrder(t *testing.T, rnd *rand.Rand) api.Order {
	t.Helper()
	var c api.Order
	for len(c.Built.Machines) == 0 {
		if c = anyOrder(rnd); rnd.Intn(4) > 0 {
			c = openLetters(rnd)
		}
	}
	c.Built.Reports = someReports(t, rnd, c.Built)
	return c
}

// clone returns an order in memory of its own.
func clone(c api.Order) api.Order {
	return api.Order{Built: trial.CloneBuilt(c.Built), Rules: slices.Clone(c.Rules), Day: c.Day}
}

// partDrawings returns all drawings of parts and standard parts.
func partDrawings(c api.Order) []int {
	var l []int
	for _, x := range trial.PartsOf(c.Built.Notes) {
		l = append(l, x.Drawing)
	}
	return slices.Compact(l)
}

// settled returns an order with all open notes settled as in a truth.
func settled(t *testing.T, c api.Order, signed []int) api.Order {
	t.Helper()
	for _, number := range trial.OpenOf(c.Built.Notes) {
		n, e := note.Settle(c.Built.Notes, number, slices.Contains(signed, number))
		if e != api.OK {
			t.Fatal(c, number, e)
		}
		c.Built.Notes = n
	}
	return c
}

// statesOf returns all states, as the chapter says it.
func statesOf(t *testing.T, c api.Order, machine, drawing int) []api.State {
	t.Helper()
	truths, e := built.Signed(c.Built)
	if e != api.OK || len(truths) == 0 {
		t.Fatal(c, truths, e)
	}
	var l []api.State
	for _, signed := range truths {
		b := settled(t, c, signed).Built
		for _, x := range trial.PartsOf(b.Notes) {
			if x.Drawing != drawing {
				continue
			}
			known, e := built.Known(b, machine, x)
			if e != api.OK {
				t.Fatal(b, machine, x, e)
			}
			if known != api.KnownNo {
				l = append(l, api.State{Signed: signed, Issue: x})
			}
		}
	}
	return l
}

// fits reports whether a piece fits in a state of a machine, as the chapter says it.
func fits(t *testing.T, c api.Order, machine int, s api.State, piece api.Ref) bool {
	t.Helper()
	may, e := swap.May(api.Swaps{Notes: c.Built.Notes, Rules: c.Rules}, s.Signed, machine, c.Day, piece, s.Issue)
	if e != api.OK {
		t.Fatal(c, machine, s, piece, e)
	}
	return may
}

// stateText is a text of a state, such as: 30A, or 102 30A if 102 was signed.
func stateText(s api.State) string {
	text := ""
	for _, number := range s.Signed {
		text += fmt.Sprint(number, " ")
	}
	return text + issueText(s.Issue)
}

// statesText is a text of states.
func statesText(l []api.State) string {
	var words []string
	for _, s := range l {
		words = append(words, stateText(s))
	}
	return strings.Join(words, ", ")
}

// yes and no are answers to the question that a word names: a letter, or a Number.
func yes(word string) api.Answer { return api.Answer{Question: question(word), Yes: true} }

func no(word string) api.Answer { return api.Answer{Question: question(word)} }

// question returns the question that a word names.
func question(word string) api.Question {
	if 'A' <= word[0] && word[0] <= 'H' {
		return api.Question{Letter: int(word[0]-'A') + 1}
	}
	var number int
	if _, e := fmt.Sscan(word, &number); e != nil {
		panic(e)
	}
	return api.Question{Note: number}
}

// questionText is the word that names a question.
func questionText(x api.Question) string {
	if x.Note == 0 && x.Letter > 0 {
		return string(rune('A' + x.Letter - 1))
	}
	return fmt.Sprint(x.Note)
}

// Orders that are made for tests are valid.
func TestOrders(t *testing.T) {
	rnd := rand.New(rand.NewSource(130))
	for range 400 {
		c := someOrder(t, rnd)
		if spare.Check(c) != api.OK || fmt.Sprint(clone(c)) != fmt.Sprint(c) {
			t.Fatal(c)
		}
	}
}
