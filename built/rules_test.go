package built_test

import (
	"fmt"
	"math/rand"
	"slices"
	"testing"

	"blueline/api"
	"blueline/built"
	"blueline/trial"
)

// R3, R7: a call returns what it does, whatever was called before it, or is called beside it; none panics.
func TestNothingIsRemembered(t *testing.T) {
	lots := []arguments{good(), {machine: 4, issue: ref(30, 1), report: all(5, 4, 30, 1)}, {signed: []int{-1}, heap: -1, machine: -1}}
	var l []func() string
	for _, of := range []map[string]api.Built{valid(), wrongNotes()} {
		for _, b := range of {
			l = append(l, func() string { return built.Check(b).Error() })
		}
		l = append(l, trial.Calls(functions(), of, lots)...)
	}
	for _, b := range wrongBuilt() {
		l = append(l, func() string { return built.Check(b).Error() })
	}
	for _, wrong := range trial.Unsteady(l) {
		t.Error(wrong)
	}
}

// R3: machines that were changed since are others, also if their memory is the same.
func TestChangedSince(t *testing.T) {
	b := example(has(1, 9, 50, 1))
	for i, x := range []struct {
		change func()
		want   string
	}{
		{func() {}, "{0 2} error 0"},
		{func() { b.Heaps[0].Count.Hi = 20 }, "{0 7} error 0"},
		{func() { b.Heaps[0].Count.Lo = 8 }, "{1 7} error 0"},
		{func() { b.Reports[0] = has(1, 9, 30, 2) }, "{1 6} error 0"},
		{func() { b.Reports[0].Machine = 6 }, "{0 0} error 8"},
		{func() { b.Reports[0].Kind = api.ReportNone }, "{1 7} error 0"},
		{func() { b.Notes.Notes[1].Signed = api.KnownYes }, "{1 5} error 0"},
		{func() { b.Machines[0] = 5 }, "{0 5} error 0"},
		{func() { b.Notes.Notes[0].UseUp = false }, "{0 0} error 8"},
		{func() { b.Reports[0].Letter = 1 }, "{0 0} error 0"},
		{func() { b.Machines[1] = 7 }, "{0 0} error 80"},
		{func() { b.Notes.Notes[1].Number = 101 }, "{0 0} error 30"},
		{func() { b.Notes.Register.Issues[1].Letter = 1 }, "{0 0} error 20"},
	} {
		x.change()
		if text := fmt.Sprint(built.Pieces(b, 9, ref(30, 1))); text != x.want {
			t.Error(i, text, "and not", x.want)
		}
	}
}

// allOf is a text of all arguments, with what is behind the ends of their lists.
func allOf(b api.Built, a arguments) string {
	return fmt.Sprint(b, a, trial.WholeBuilt(b), trial.WholeList(a.signed))
}

// someArguments returns arguments that are good for machines, of which there are some.
func someArguments(rnd *rand.Rand, b api.Built) arguments {
	number := 1
	for slices.ContainsFunc(b.Reports, func(r api.Report) bool { return r.Number == number }) {
		number++
	}
	a := arguments{signed: trial.SomeTruth(rnd, b.Notes), machine: b.Machines[rnd.Intn(len(b.Machines))], report: someReport(rnd, b, number)}
	a.heap, a.issue = rnd.Intn(1+len(b.Heaps)), partsOf(b.Notes)[rnd.Intn(len(partsOf(b.Notes)))]
	return a
}

// R3: nothing is written to arguments, nor behind their ends, and what is there does not matter.
func TestArgumentsAreNotWritten(t *testing.T) {
	rnd := rand.New(rand.NewSource(120))
	for range 25 {
		b, _ := someTold(t, rnd)
		if len(b.Machines) == 0 {
			continue
		}
		a := someArguments(rnd, b)
		for _, number := range append([]int{0, 1, 7}, trial.OpenOf(b.Notes)...) {
			other, c := trial.RoomyBuilt(b, number), a
			c.signed = trial.Roomy(a.signed, number)
			before := allOf(other, c)
			if texts, again := trial.Texts(functions(), b, a), trial.Texts(functions(), other, c); !slices.Equal(texts, again) {
				t.Fatal(b, a, number, texts, again)
			}
			if after := allOf(other, c); after != before {
				t.Fatal(before, "is", after)
			}
		}
	}
}

// scribbleBuilt writes over all lists of machines, from the last one on.
func scribbleBuilt(t *testing.T, b api.Built) {
	t.Helper()
	want := clone(b)
	trial.Scribble(b.Reports, has(-1, -1, -1, -1))
	trial.Scribble(b.Heaps, heap(-1, -1, -1, -1))
	trial.Scribble(b.Machines, -1)
	if shared := trial.ScribbleNotes(b.Notes, want.Notes); len(shared) > 0 {
		t.Fatal("two lists of a result share memory:", shared)
	}
}

// scribbleResults writes over all results.
func scribbleResults(t *testing.T, b api.Built, a arguments) {
	t.Helper()
	truths, _ := built.Signed(b)
	want := fmt.Sprint(truths)
	for i := len(truths) - 1; i >= 0; i-- {
		if text := fmt.Sprint(truths); text != want {
			t.Fatal("two lists of a result share memory:", text, want)
		}
		trial.Scribble(truths[i], -1)
		truths[i] = nil
		want = fmt.Sprint(truths)
	}
	holdings, _ := built.Parts(b, a.machine)
	trial.Scribble(holdings, api.Holding{Issue: ref(-1, -1)})
	settled, _ := built.Settled(b)
	trial.Scribble(settled, 9)
	clash, _ := built.Clash(b)
	trial.Scribble(clash, -1)
	withdraw, _ := built.Withdraw(b)
	trial.Scribble(withdraw, -1)
	more, _ := built.Add(b, a.report)
	scribbleBuilt(t, more)
}

// R3: what is written to a result is not written to arguments, nor to other results.
func TestResultsAreNew(t *testing.T) {
	rnd := rand.New(rand.NewSource(121))
	for range 100 {
		b, _ := someTold(t, rnd)
		if len(b.Machines) == 0 {
			continue
		}
		b = trial.RoomyBuilt(b, 3)
		a := someArguments(rnd, b)
		a.signed = trial.Roomy(a.signed, 3)
		before := allOf(b, a)
		texts := trial.Texts(functions(), b, a)
		scribbleResults(t, b, a)
		if after := allOf(b, a); after != before {
			t.Fatal(before, "is", after)
		}
		if again := trial.Texts(functions(), b, a); !slices.Equal(again, texts) {
			t.Fatal(again, "and before", texts)
		}
	}
}

// R4: a nil list and an empty one are the same, wherever they are.
func TestNilAndEmpty(t *testing.T) {
	for name, b := range valid() {
		empty := trial.EmptyBuilt(b)
		a := good()
		a.signed = nil
		c := a
		c.signed = []int{}
		if texts, again := trial.Texts(functions(), b, a), trial.Texts(functions(), empty, c); !slices.Equal(texts, again) {
			t.Error(name, texts, again)
		}
	}
}

// R5, R6: reports are valid by what is in them alone; numbers of a byte are not cut off.
func TestAnyValue(t *testing.T) {
	for k := range 256 {
		want := api.ErrBuilt
		if 1 <= k && k <= 3 {
			want = api.OK
		}
		if e := built.Check(example(report(uint8(k), 4, 4, 30, 2))); e != want {
			t.Error(k, e)
		}
	}
	for count := -3; count < 300; count++ {
		want := api.ErrBuilt
		if 0 <= count && count <= 200 {
			want = api.OK
		}
		b := example()
		if b.Heaps[0].Count = span(count, count); built.Check(b) != want {
			t.Error(count)
		}
	}
}

// R5: counts of pieces may be great.
func TestManyPieces(t *testing.T) {
	var l []api.Issue
	for d := range 5 {
		l = append(l, trial.Assembly(1+d, 1, 2+d, api.MaxCount))
	}
	b := api.Built{Of: 1, Machines: []int{1, 2, 3, 4, 5, 6, 7, 8, 9, 10, 11, 12}, Heaps: []api.Heap{heap(6, 1, 0, 200)}}
	b.Notes.Register = trial.Register(append(l, trial.Part(6, 1), trial.Part(6, 2))...)
	b.Notes.Notes = []api.Note{trial.UsingUp(trial.Gives(1, 0, 6, 2, 1, 999))}
	for _, x := range []struct {
		machine, letter int
		want            api.Span
	}{{1, 1, span(0, 200)}, {1, 2, span(3199800, 3200000)}, {12, 1, span(0, 0)}, {12, 2, span(3200000, 3200000)}} {
		if s, e := built.Pieces(b, x.machine, ref(6, x.letter)); s != x.want || e != api.OK {
			t.Error(x, s, e)
		}
	}
}

// R7: each call ends soon, however much there is of anything.
func TestEnds(t *testing.T) {
	const many = 300000
	var machines []int
	var heaps []api.Heap
	var reports []api.Report
	for i := range many {
		machines, heaps, reports = append(machines, 1+i), append(heaps, heap(30, 1, 5, 9)), append(reports, has(1+i, 9, 50, 1))
	}
	for name, b := range map[string]api.Built{
		"machines": changed(func(b *api.Built) { b.Machines = machines }), "heaps": changed(func(b *api.Built) { b.Heaps = heaps }), "reports": changed(func(b *api.Built) { b.Reports = reports }),
		"zeros": changed(func(b *api.Built) { b.Machines, b.Reports = make([]int, many), nil }), "zero heaps": changed(func(b *api.Built) { b.Heaps = make([]api.Heap, many) }), "zero reports": changed(func(b *api.Built) { b.Reports = make([]api.Report, many) }),
	} {
		for _, f := range functions() {
			if text, e := f.Call(b, good()); e != api.ErrBuilt || !isNothing(text) {
				t.Error(name, f.Name, e)
			}
		}
	}
	long := good()
	long.signed = machines
	for _, f := range functions() {
		if _, e := f.Call(example(), long); f.Has("truth") != (e == api.ErrTruth) {
			t.Error(f.Name, e)
		}
	}
	most := arguments{signed: []int{96, 97, 98}, heap: 3, machine: 881, issue: ref(3, 2), report: has(11, 1, 2, 1)}
	for range 8 {
		for _, f := range functions() {
			if _, e := f.Call(full(), most); e != api.OK && (f.Name != "Add" || e != api.ErrFull) {
				t.Error(f.Name, e)
			}
		}
	}
}
