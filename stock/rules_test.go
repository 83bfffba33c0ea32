package stock_test

import (
	"fmt"
	"math/rand"
	"slices"
	"testing"

	"blueline/api"
	"blueline/stock"
	"blueline/trial"
)

// calls returns calls of all functions, with good and bad arguments, each with a text of its results.
func calls() []func() string {
	var l []func() string
	all := []arguments{{nil, 1, 2, goodPlan()}, {[]int{102}, 0, 1, goodPlan()}, {[]int{17, 18}, 3, 5, nil}, {[]int{101}, 5, 3, [][]int{{}}}}
	for _, of := range []map[string]api.Stock{valid(), wrongStocks(), wrongNotes()} {
		for _, s := range of {
			l = append(l, func() string { return stock.Check(s).Error() })
		}
		l = append(l, trial.Calls(functions(), of, all)...)
	}
	return l
}

// R3, R7: a call returns what it does, whatever was called before it, or is called beside it; none panics.
func TestNothingIsRemembered(t *testing.T) {
	for _, wrong := range trial.Unsteady(calls()) {
		t.Error(wrong)
	}
}

// R3: a stock that was changed since is another one, also if its memory is the same.
func TestChangedSince(t *testing.T) {
	s := example()
	signed := []int{102}
	for i, x := range []struct {
		change func()
		want   string
	}{
		{func() {}, "[[7 0] [7 0] [5 0]] error 0"},
		{func() { s.Piles[0] = 10 }, "[[7 0] [3 3] [0 0]] error 0"},
		{func() { s.Machines[1] = 4 }, "[] error 40"},
		{func() { s.Machines[1] = 5 }, "[[7 0] [3 3] [0 0]] error 0"},
		{func() { s.Machines[2], s.Piles[1] = 7, 5 }, "[[7 0] [3 4] [0 1]] error 0"},
		{func() { s.Notes.Notes[0].UseUp = false }, "[[7 0] [0 5] [0 0]] error 0"},
		{func() { s.Notes.Notes[0].From = 7 }, "[[7 0] [3 0] [0 5]] error 0"},
		{func() { signed[0] = 101 }, "[] error 31"},
		{func() { signed[0], s.Notes.Notes[0].Signed = 102, api.KnownOpen }, "[[7 0] [3 0] [0 0]] error 0"},
		{func() { s.Notes.Register.Issues[2].Items[0].Count = 1 }, "[[3 0] [3 0] [3 0]] error 0"},
		{func() { s.Notes.Register.Issues[4].Letter = 1 }, "[] error 20"},
	} {
		x.change()
		if text := fmt.Sprint(stock.Plan(s, signed)); text != x.want {
			t.Error(i, text, "and not", x.want)
		}
	}
}

// roomy returns a stock all of whose lists have memory behind their ends.
func roomy(s api.Stock, number int) api.Stock {
	s.Notes = trial.RoomyNotes(s.Notes, number)
	s.Piles, s.Machines = trial.Roomy(s.Piles, number), trial.Roomy(s.Machines, number)
	return s
}

// roomyPlan returns a plan all of whose lists have memory behind their ends.
func roomyPlan(plan [][]int, number int) [][]int {
	var l [][]int
	for _, row := range plan {
		l = append(l, trial.Roomy(row, number))
	}
	return trial.Roomy(l, []int{number, number})
}

// allOf is a text of all arguments, with what is behind the ends of their lists.
func allOf(s api.Stock, a arguments) string {
	text := fmt.Sprint(s, a, trial.Whole(s.Notes), trial.WholeList(s.Piles), trial.WholeList(s.Machines), trial.WholeList(a.signed))
	for _, row := range trial.WholeList(a.plan) {
		text += fmt.Sprint(trial.WholeList(row))
	}
	return text
}

// someArguments returns arguments that are good, mostly.
func someArguments(t *testing.T, rnd *rand.Rand, s api.Stock) arguments {
	t.Helper()
	a := arguments{signed: trial.SomeTruth(rnd, s.Notes), letter: 1 + rnd.Intn(len(s.Piles)), machine: rnd.Intn(1 + len(s.Machines))}
	a.plan = somePlan(rnd, s, wantedOf(t, s, a.signed))
	return a
}

// R3: nothing is written to arguments, nor behind their ends, and what is there does not matter.
func TestArgumentsAreNotWritten(t *testing.T) {
	rnd := rand.New(rand.NewSource(59))
	for range 60 {
		s := someStock(rnd, 20)
		a := someArguments(t, rnd, s)
		for _, number := range []int{0, 1, 7, 30} {
			other, b := roomy(s, number), a
			b.signed, b.plan = trial.Roomy(a.signed, number), roomyPlan(a.plan, number)
			before := allOf(other, b)
			for _, f := range functions() {
				text, e := f.Call(s, a)
				if again, g := f.Call(other, b); text != again || e != g {
					t.Fatal(s, a, number, f.Name, text, e, again, g)
				}
			}
			if after := allOf(other, b); after != before {
				t.Fatal(before, "is", after)
			}
		}
	}
}

// R3: what is written to a result is not written to arguments, nor to other results.
func TestResultsAreNew(t *testing.T) {
	rnd := rand.New(rand.NewSource(60))
	for range 100 {
		s := roomy(someStock(rnd, 20), 3)
		a := someArguments(t, rnd, s)
		a.signed, a.plan = trial.Roomy(a.signed, 3), roomyPlan(a.plan, 3)
		before := allOf(s, a)
		texts := trial.Texts(functions(), s, a)
		for _, call := range []func() ([]int, api.Errno){
			func() ([]int, api.Errno) { return stock.Needs(s, a.signed) },
			func() ([]int, api.Errno) { return stock.May(s, a.signed, a.machine) },
			func() ([]int, api.Errno) { return stock.Made(s, a.signed) },
			func() ([]int, api.Errno) { return stock.Proof(s, a.signed) },
			func() ([]int, api.Errno) { return stock.Wish(s) },
		} {
			l, _ := call()
			trial.Scribble(l, -1)
		}
		pairs, _ := stock.Left(s, a.signed, a.plan)
		trial.Scribble(pairs, [2]int{-1, -1})
		plan, _ := stock.Plan(s, a.signed)
		want, _ := stock.Plan(s, a.signed)
		for i := len(plan) - 1; i >= 0; i-- {
			if !slices.Equal(plan[i], want[i]) {
				t.Fatal("two rows of a plan share memory:", plan, want)
			}
			trial.Scribble(plan[i], -1)
		}
		trial.Scribble(plan, nil)
		if after := allOf(s, a); after != before {
			t.Fatal(before, "is", after)
		}
		if again := trial.Texts(functions(), s, a); !slices.Equal(again, texts) {
			t.Fatal(again, "and before", texts)
		}
	}
}

// R4: a nil list and an empty one are the same, wherever they are.
func TestNilAndEmpty(t *testing.T) {
	for name, s := range valid() {
		empty := clone(s)
		empty.Notes = trial.EmptyNotes(s.Notes)
		empty.Machines = append([]int{}, s.Machines...)
		for _, f := range functions() {
			text, e := f.Call(s, arguments{nil, 0, 1, nil})
			if again, g := f.Call(empty, arguments{[]int{}, 0, 1, [][]int{}}); text != again || e != g {
				t.Error(name, f.Name, text, e, again, g)
			}
		}
	}
	for _, row := range [][]int{nil, {}} {
		if l, e := stock.Left(example(), nil, [][]int{{7, 0}, {5, 0}, row}); len(l) > 0 || e != api.ErrPlan {
			t.Error(l, e)
		}
	}
	if e := stock.Check(api.Stock{Notes: example().Notes, Of: 10, Drawing: 30, Piles: []int{}}); e != api.ErrStock {
		t.Error(e)
	}
}

// R5: numbers of a plan that are far too great, or too little, are no plan, whatever they add up to.
func TestFarPlans(t *testing.T) {
	for _, far := range trial.Far() {
		if far == 0 {
			continue
		}
		for _, row := range [][]int{{far, 0}, {0, far}, {far, -far}, {far, far}, {7, far}, {far, 7 - far}} {
			for i := range 3 {
				plan := goodPlan()
				plan[i] = row
				if l, e := stock.Left(example(), nil, plan); len(l) > 0 || e != api.ErrPlan {
					t.Error(plan, l, e)
				}
			}
		}
		for _, plan := range [][][]int{{{far, 0}, {-far, 0}, {0, 0}}, {{0, 0}, {0, far}, {0, -far}}, {{0, 0}, {far, far}, {far, far}}} {
			if l, e := stock.Left(example(), nil, plan); len(l) > 0 || e != api.ErrPlan {
				t.Error(plan, l, e)
			}
		}
	}
}

// R7: each call ends soon, however much there is of anything.
func TestEnds(t *testing.T) {
	const many = 300000
	rising := make([]int, many)
	for i := range rising {
		rising[i] = i + 1
	}
	long := map[string]api.Stock{
		"piles":    changed(func(s *api.Stock) { s.Piles = make([]int, many) }),
		"machines": changed(func(s *api.Stock) { s.Machines = rising }),
		"both":     changed(func(s *api.Stock) { s.Piles, s.Machines = rising, make([]int, many) }),
	}
	for name, s := range long {
		for _, f := range functions() {
			if text, e := f.Call(s, arguments{make([]int, many), many, many, make([][]int, many)}); e != api.ErrStock || !isNothing(text) {
				t.Error(name, f.Name, e)
			}
		}
	}
	for _, plan := range [][][]int{make([][]int, many), {make([]int, many), make([]int, many), make([]int, many)}} {
		if l, e := stock.Left(example(), nil, plan); len(l) > 0 || e != api.ErrPlan {
			t.Error(len(plan), e)
		}
	}
	for _, s := range []api.Stock{full(), deep()} {
		for _, signed := range truthsOf(s) {
			for _, f := range functions() {
				if _, e := f.Call(s, arguments{signed, 11, 2, nil}); e != api.OK && (f.Name != "Left" || e != api.ErrPlan) && (f.Name != "Last" || e != api.ErrNone) {
					t.Error(f.Name, signed, e)
				}
			}
		}
	}
}
