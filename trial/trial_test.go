package trial_test

import (
	"fmt"
	"math/rand"
	"slices"
	"strconv"
	"sync/atomic"
	"testing"

	"blueline/api"
	"blueline/built"
	"blueline/note"
	"blueline/sheet"
	"blueline/swap"
	"blueline/trial"
)

func TestUnsteady(t *testing.T) {
	var made atomic.Int64
	steady := func() string { return "as ever" }
	counting := func() string { return strconv.Itoa(int(made.Add(1))) }
	once := func() string { return strconv.FormatBool(made.Add(1) == 1) }
	for name, x := range map[string]struct {
		calls []func() string
		found bool
	}{"none": {nil, false}, "one": {[]func() string{steady}, false}, "two": {[]func() string{steady, steady}, false}, "counting": {[]func() string{steady, counting}, true}, "once": {[]func() string{once, steady}, true}} {
		made.Store(0)
		if l := trial.Unsteady(x.calls); (len(l) > 0) != x.found {
			t.Error(name, l)
		}
	}
}

func TestRoomy(t *testing.T) {
	l := []int{1, 2}
	roomy := trial.Roomy(l, 7)
	if !slices.Equal(roomy, l) || !slices.Equal(roomy[:5], []int{1, 2, 7, 7, 7}) {
		t.Error(roomy[:cap(roomy)])
	}
	trial.Scribble(roomy, 9)
	if slices.ContainsFunc(roomy[:cap(roomy)], func(n int) bool { return n != 9 }) || !slices.Equal(l, []int{1, 2}) {
		t.Error(roomy[:cap(roomy)], l)
	}
}

func TestScribbleRegister(t *testing.T) {
	r := trial.Clone(trial.Example())
	if l := trial.ScribbleRegister(r, trial.Example()); len(l) > 0 {
		t.Error(l)
	}
	if slices.ContainsFunc(r.Issues, func(x api.Issue) bool { return x.Drawing != -1 }) {
		t.Error(r)
	}
	r = trial.Clone(trial.Example())
	dims, items := r.Issues[3].Dims, r.Issues[0].Items
	r.Issues[5].Dims, r.Issues[2].Items = dims, items
	want := trial.Clone(r)
	if l := trial.ScribbleRegister(r, want); len(l) != 2 || l[0].Letter != 1 || l[0].Drawing != 30 || l[1].Drawing != 10 || dims[0].Lower != -1 || items[0].Count != -1 {
		t.Error(l, dims, items)
	}
}

func TestRegisters(t *testing.T) {
	r := trial.Example()
	for _, other := range []api.Register{trial.Clone(r), trial.RoomyRegister(r, 30)} {
		if sheet.Check(other) != api.OK || fmt.Sprint(other) != fmt.Sprint(trial.Example()) {
			t.Error(other)
		}
		other.Issues[0].Items[0].Count, other.Issues[3].Dims[0].Lower, other.Issues[5].Letter = -1, -1, -1
		if fmt.Sprint(r) != fmt.Sprint(trial.Example()) {
			t.Error(r)
		}
	}
}

func TestNotes(t *testing.T) {
	rnd := rand.New(rand.NewSource(1))
	for range 300 {
		n := trial.SomeNotes(rnd)
		for _, other := range []api.Notes{n, trial.CloneNotes(n), trial.RoomyNotes(n, 3), trial.EmptyNotes(n)} {
			if note.Check(other) != api.OK || fmt.Sprint(other) != fmt.Sprint(n) {
				t.Fatal(other, "is not", n)
			}
		}
		truths := trial.TruthsOf(n)
		if len(truths) != 1<<len(trial.OpenOf(n)) {
			t.Fatal(n, truths)
		}
		for _, signed := range append(truths, trial.SomeTruth(rnd, n)) {
			if _, e := note.Force(n, signed, 1); e != api.OK {
				t.Fatal(n, signed, e)
			}
		}
	}
}

func TestScribbleNotes(t *testing.T) {
	n, want := trial.CloneNotes(trial.ExampleNotes()), trial.ExampleNotes()
	if l := trial.ScribbleNotes(n, want); len(l) > 0 {
		t.Error(l)
	}
	if n.Notes[0].Number != -1 || n.Notes[3].Signed != 9 || n.Register.Issues[6].Letter != -1 {
		t.Error(n)
	}
	n = trial.CloneNotes(want)
	n.Register.Issues[4].Dims = n.Register.Issues[3].Dims
	if l := trial.ScribbleNotes(n, trial.CloneNotes(n)); len(l) != 1 || l[0].Drawing != 30 || l[0].Letter != 1 {
		t.Error(l)
	}
}

func TestEmptyNotes(t *testing.T) {
	n := trial.EmptyNotes(api.Notes{Register: trial.Example()})
	if n.Notes == nil || slices.ContainsFunc(n.Register.Issues, func(x api.Issue) bool { return x.Items == nil || x.Dims == nil }) {
		t.Error(n)
	}
}

func TestWhole(t *testing.T) {
	n := trial.Noted(trial.UsingUp(trial.Gives(1, 2, 30, 2, 5, 6)), trial.Cancels(2, 3, 1, 6, 6))
	roomy := trial.RoomyNotes(n, 7)
	before := fmt.Sprint(trial.Whole(roomy))
	for i, change := range []func(){
		func() { roomy.Notes[:3][2].Day++ },
		func() { roomy.Register.Issues[:9][8].Letter++ },
		func() { roomy.Register.Issues[0].Items[:3][2].Count++ },
		func() { roomy.Register.Issues[3].Dims[:2][1].Lower++ },
	} {
		change()
		after := fmt.Sprint(trial.Whole(roomy))
		if after == before || fmt.Sprint(roomy) != fmt.Sprint(n) {
			t.Error(i, after)
		}
		before = after
	}
}

// functionsOf returns functions of a number that return an error: the number itself, or that of their argument, if they take one.
func functionsOf(early bool) []trial.Function[int, [2]int] {
	call := func(i int) func(n int, a [2]int) (string, api.Errno) {
		return func(n int, a [2]int) (string, api.Errno) {
			if e := max(n, 0); e > 0 && !early {
				return "", api.Errno(e)
			}
			if a[i] > 0 {
				return "", api.Errno(a[i])
			}
			return "fine", api.Errno(n)
		}
	}
	return []trial.Function[int, [2]int]{{Name: "F", Takes: "first", Call: call(0)}, {Name: "G", Takes: "second", Call: call(1)}}
}

func TestFunctions(t *testing.T) {
	isNothing := func(text string) bool { return text == "" }
	first := func(n int) api.Errno { return api.Errno(n) }
	things := map[string]int{"two": 2, "four": 4}
	arguments := [][2]int{{}, {6, 0}, {0, 8}}
	if l := trial.Calls(functionsOf(false), things, arguments); len(l) != 12 || l[0]() != " error 4" || l[11]() != " error 2" {
		t.Error(len(l))
	}
	if l := trial.Texts(functionsOf(false), 0, [2]int{6, 0}); !slices.Equal(l, []string{"F:  error 6", "G: fine error 0"}) {
		t.Error(l)
	}
	if l := trial.Early(functionsOf(false), things, arguments, first, isNothing); len(l) > 0 {
		t.Error(l)
	}
	if l := trial.Early(functionsOf(true), things, arguments, first, isNothing); len(l) != 12 {
		t.Error(l)
	}
	if l := trial.Early(functionsOf(false), map[string]int{"none": 0}, arguments, first, isNothing); len(l) != 6 {
		t.Error(l)
	}
	wrongs := []trial.Wrong[[2]int]{{Word: "first", Make: func(a *[2]int) { a[0] = 6 }, Error: 6}, {Word: "second", Make: func(a *[2]int) { a[1] = 8 }, Error: 8}}
	if l := trial.Disordered(functionsOf(false), 0, [2]int{}, wrongs, isNothing); len(l) > 0 {
		t.Error(l)
	}
	wrongs[1].Error = 7
	if l := trial.Disordered(functionsOf(false), 0, [2]int{}, wrongs, isNothing); len(l) != 2 {
		t.Error(l)
	}
	wrongs[1] = trial.Wrong[[2]int]{Word: "first", Make: func(a *[2]int) { a[0] = 8 }, Error: 8}
	if l := trial.Disordered(functionsOf(false), 0, [2]int{}, wrongs, isNothing); !slices.Equal(l, []string{"F, first, first:  error 8"}) {
		t.Error(l)
	}
}

func TestBuilt(t *testing.T) {
	rnd := rand.New(rand.NewSource(2))
	for range 100 {
		b := trial.SomeBuilt(rnd)
		if len(b.Machines) > 0 {
			for _, number := range trial.SomeNumbers(rnd, rnd.Intn(api.MaxReports+1)) {
				b.Reports = append(b.Reports, trial.SomeReport(rnd, b, number))
			}
		}
		for _, other := range []api.Built{b, trial.CloneBuilt(b), trial.RoomyBuilt(b, 3), trial.EmptyBuilt(b)} {
			if built.Check(other) != api.OK || fmt.Sprint(other) != fmt.Sprint(b) {
				t.Fatal(other, "is not", b)
			}
		}
	}
	b := api.Built{Notes: trial.ExampleNotes(), Of: 10, Machines: []int{4, 6}, Heaps: []api.Heap{trial.Heap(30, 1, 5, 9)}, Reports: []api.Report{trial.Has(1, 4, 30, 1), trial.All(2, 4, 30, 1), trial.None(3, 6, 30, 2)}}
	roomy, other := trial.RoomyBuilt(b, 7), trial.CloneBuilt(b)
	before := fmt.Sprint(trial.WholeBuilt(roomy))
	for i, change := range []func(){
		func() { roomy.Notes.Notes[:5][4].Day++ },
		func() { roomy.Machines[:3][2]++ },
		func() { roomy.Heaps[:2][1].Letter++ },
		func() { roomy.Reports[:5][4].Kind++ },
	} {
		change()
		after := fmt.Sprint(trial.WholeBuilt(roomy))
		if after == before || fmt.Sprint(roomy) != fmt.Sprint(b) {
			t.Error(i, after)
		}
		before = after
	}
	other.Notes.Notes[0].Day, other.Machines[0], other.Heaps[0].Letter, other.Reports[0].Kind = 9, 9, 9, 9
	if fmt.Sprint(roomy) != fmt.Sprint(b) || b.Machines[0] != 4 || b.Reports[0].Kind != api.ReportHas || b.Reports[1].Kind != api.ReportAll || b.Reports[2].Kind != api.ReportNone {
		t.Error(b)
	}
	if empty := trial.EmptyBuilt(api.Built{}); empty.Machines == nil || empty.Heaps == nil || empty.Reports == nil || empty.Notes.Notes == nil {
		t.Error(empty)
	}
	if l := trial.PartsOf(b.Notes); trial.IssuesText(l) != "30A 30B 40A 50A" {
		t.Error(l)
	}
}

func TestRules(t *testing.T) {
	rnd := rand.New(rand.NewSource(3))
	broken := 0
	for range 200 {
		n := trial.SomeNotes(rnd)
		l := trial.SomeRules(rnd, n)
		if e := swap.Check(api.Swaps{Notes: n, Rules: l}); e != api.OK || !slices.IsSortedFunc(l, trial.RuleOrder) {
			t.Fatal(n, l, e)
		}
		if slices.ContainsFunc(l, func(x api.Rule) bool { return x.Breaks > 0 }) {
			broken++
		}
	}
	if broken < 100 {
		t.Error("few are broken:", broken)
	}
	l := []api.Rule{trial.Rule(1, 2, "10A", "30B"), trial.BothWays(3, 2, "30B", "10H"), trial.Breaks(2, 4, 1)}
	want := []api.Rule{{Number: 1, Day: 2, From: api.Ref{Drawing: 10, Letter: 1}, To: api.Ref{Drawing: 30, Letter: 2}}, {Number: 3, Day: 2, From: api.Ref{Drawing: 30, Letter: 2}, To: api.Ref{Drawing: 10, Letter: 8}, Both: true}, {Number: 2, Day: 4, Breaks: 1}}
	if roomy := trial.RoomyRules(l, 5); !slices.Equal(l, want) || !slices.Equal(roomy, want) || roomy[:4][3].Number != 5 {
		t.Error(l)
	}
	if x := trial.Letting(api.WayOld, trial.Gives(1, 2, 30, 2, 5, 6)); x.Ways != api.WayOld || x.Number != 1 {
		t.Error(x)
	}
	if text := trial.IssuesText(trial.IssuesOf(trial.ExampleNotes())); text != "10A 10B 20A 30A 30B 40A 50A" || trial.IssuesText(trial.AreAll(text)) != text {
		t.Error(text)
	}
}
