package built_test

import (
	"fmt"
	"math/rand"
	"slices"
	"testing"

	"blueline/api"
	"blueline/built"
	"blueline/note"
	"blueline/trial"
)

// wrongBuilt returns machines that are not valid, with notes that are.
func wrongBuilt() map[string]api.Built {
	m := map[string]api.Built{}
	for name, change := range map[string]func(b *api.Built){
		"a machine twice":     func(b *api.Built) { b.Machines = []int{4, 6, 6, 9} },
		"machines turned":     func(b *api.Built) { b.Machines = []int{6, 4, 9} },
		"last turned":         func(b *api.Built) { b.Machines = []int{4, 9, 6} },
		"a heap twice":        func(b *api.Built) { b.Heaps = []api.Heap{heap(30, 1, 5, 9), heap(30, 1, 1, 2)} },
		"a heap of the last":  func(b *api.Built) { b.Heaps[0].Letter = 2 },
		"a heap of none":      func(b *api.Built) { b.Heaps[0] = heap(40, 1, 5, 9) },
		"a heap of no letter": func(b *api.Built) { b.Heaps[0].Letter = 0 },
		"a heap of 10":        func(b *api.Built) { b.Heaps[0].Drawing = 10 },
		"from above to":       func(b *api.Built) { b.Heaps[0].Count = span(9, 8) },
		"far above to":        func(b *api.Built) { b.Heaps[0].Count = span(200, 0) },
		"more than 200":       func(b *api.Built) { b.Heaps[0].Count.Hi = 201 },
		"201 of them":         func(b *api.Built) { b.Heaps[0].Count = span(201, 201) },
		"less than none":      func(b *api.Built) { b.Heaps[0].Count.Lo = -1 },
		"-1 of them":          func(b *api.Built) { b.Heaps[0].Count = span(-1, -1) },
		"a Number twice":      func(b *api.Built) { b.Reports[1].Number = 1 },
		"last Number twice":   func(b *api.Built) { b.Reports[2].Number = 2 },
		"Numbers turned":      func(b *api.Built) { b.Reports[0].Number, b.Reports[1].Number = 2, 1 },
		"Numbers far apart":   func(b *api.Built) { b.Reports[2].Number = 1 },
		"of no machine":       func(b *api.Built) { b.Reports[0].Machine = 5 },
		"of an assembly":      func(b *api.Built) { b.Reports[2].Drawing = 20 },
		"of no letter":        func(b *api.Built) { b.Reports[1].Letter = 3 },
		"of other's letter":   func(b *api.Built) { b.Reports[0].Letter = 2 },
		"a zero report":       func(b *api.Built) { b.Reports[0] = api.Report{} },
		"a zero heap":         func(b *api.Built) { b.Heaps[0] = api.Heap{} },
		"of nothing":          func(b *api.Built) { b.Of = 0 },
		"of no drawing":       func(b *api.Built) { b.Of = 35 },
		"no machines":         func(b *api.Built) { b.Machines = nil },
		"the last is missing": func(b *api.Built) { b.Machines = b.Machines[:2] },
	} {
		m[name] = changed(change)
	}
	machines, heaps, reports := full(), full(), full()
	machines.Machines = append(machines.Machines, 999)
	heaps.Heaps = append(heaps.Heaps, heap(5, 1, 1, 1))
	reports.Reports = append(reports.Reports, has(11, 1, 2, 1))
	m["13 machines"], m["5 heaps"], m["11 reports"] = machines, heaps, reports
	for _, far := range append(trial.Far(), 1000) {
		addFar(m, far)
	}
	for _, k := range []uint8{0, 4, 5, 128, 255} {
		m[fmt.Sprint("kind ", k)] = changed(func(b *api.Built) { b.Reports[2].Kind = k })
	}
	return m
}

// addFar adds machines with a number that is too far away for what has it.
func addFar(m map[string]api.Built, far int) {
	isId, isMachine, isCount := 1 <= far && far <= 9999, 1 <= far && far <= 999, 0 <= far && far <= 200
	for name, x := range map[string]struct {
		isFar  bool
		change func(b *api.Built)
	}{
		"of":             {true, func(b *api.Built) { b.Of = far }},
		"first machine":  {!isMachine, func(b *api.Built) { b.Machines[0], b.Reports[2].Machine = far, 9 }},
		"last machine":   {!isMachine, func(b *api.Built) { b.Machines[2], b.Reports[0].Machine = far, far }},
		"only machine":   {!isMachine, func(b *api.Built) { b.Machines, b.Reports = []int{far}, nil }},
		"heap":           {true, func(b *api.Built) { b.Heaps[0].Drawing = far }},
		"heap's letter":  {far != 1, func(b *api.Built) { b.Heaps[0].Letter = far }},
		"from":           {!isCount, func(b *api.Built) { b.Heaps[0].Count.Lo = far }},
		"to":             {!isCount, func(b *api.Built) { b.Heaps[0].Count.Hi = far }},
		"from and to":    {!isCount, func(b *api.Built) { b.Heaps[0].Count = span(far, far) }},
		"number":         {!isId, func(b *api.Built) { b.Reports[0].Number = far }},
		"last number":    {!isId, func(b *api.Built) { b.Reports[2].Number = far }},
		"machine":        {true, func(b *api.Built) { b.Reports[1].Machine = far }},
		"drawing":        {true, func(b *api.Built) { b.Reports[1].Drawing = far }},
		"letter":         {far != 1, func(b *api.Built) { b.Reports[0].Letter = far }},
		"another letter": {far != 1, func(b *api.Built) { b.Reports[1].Letter = far }},
	} {
		if x.isFar {
			m[fmt.Sprint(name, " ", far)] = changed(x.change)
		}
	}
}

// wrongNotes returns machines whose notes are not valid, with all else that is, or is not.
func wrongNotes() map[string]api.Built {
	circle := trial.Register(trial.Assembly(10, 1, 30, 1), trial.Assembly(10, 2, 30, 1), trial.Assembly(30, 1, 10, 1), trial.Assembly(30, 2, 10, 1))
	m := map[string]api.Built{}
	for name, b := range map[string]api.Built{"good": toldExample(), "none": {}, "wrong": wrongBuilt()["a zero heap"], "13": wrongBuilt()["13 machines"]} {
		b.Notes = api.Notes{}
		m["nothing, "+name] = b
		b.Notes = api.Notes{Register: circle}
		m["a circle, "+name] = b
		b.Notes = exampleNotes()
		b.Notes.Notes[1].Number = 101
		m["a number twice, "+name] = b
	}
	return m
}

// P8.1: what is valid is OK, what is not ErrBuilt; the notes' error comes first.
func TestCheck(t *testing.T) {
	seen := map[api.Errno]bool{}
	for name, b := range valid() {
		if e := built.Check(b); e != api.OK {
			t.Error(name, e)
		}
	}
	for name, b := range wrongBuilt() {
		if e := built.Check(b); e != api.ErrBuilt {
			t.Error(name, e)
		}
	}
	for name, b := range wrongNotes() {
		e := built.Check(b)
		if seen[e] = true; e == api.OK || e != note.Check(b.Notes) {
			t.Error(name, e)
		}
	}
	if len(seen) != 3 {
		t.Error("not all errors of notes:", seen)
	}
}

// naive tells what Check has to return, as slowly as the chapter does.
func naive(b api.Built) api.Errno {
	if e := note.Check(b.Notes); e != api.OK {
		return e
	}
	isPart := func(drawing, letter int) bool { return slices.Contains(partsOf(b.Notes), ref(drawing, letter)) }
	good := len(b.Machines) <= 12 && len(b.Heaps) <= 4 && len(b.Reports) <= 10 && slices.Contains(trial.DrawingsOf(b.Notes), b.Of)
	for i, m := range b.Machines {
		good = good && 1 <= m && m <= 999 && (i == 0 || b.Machines[i-1] < m)
	}
	for i, h := range b.Heaps {
		good = good && isPart(h.Drawing, h.Letter) && isPart(h.Drawing, h.Letter+1) && 0 <= h.Count.Lo && h.Count.Lo <= h.Count.Hi && h.Count.Hi <= 200
		for _, other := range b.Heaps[:i] {
			good = good && ref(other.Drawing, other.Letter) != ref(h.Drawing, h.Letter)
		}
	}
	for i, r := range b.Reports {
		good = good && 1 <= r.Number && r.Number <= 9999 && (i == 0 || b.Reports[i-1].Number < r.Number)
		good = good && slices.Contains(b.Machines, r.Machine) && isPart(r.Drawing, r.Letter) && 1 <= r.Kind && r.Kind <= 3
	}
	if !good {
		return api.ErrBuilt
	}
	return api.OK
}

// spoil changes something of machines, so that they may not be valid any more.
func spoil(rnd *rand.Rand, b *api.Built) {
	x := b.Notes.Register.Issues[rnd.Intn(len(b.Notes.Register.Issues))]
	h, r := &b.Heaps[rnd.Intn(len(b.Heaps))], &b.Reports[rnd.Intn(len(b.Reports))]
	switch rnd.Intn(10) {
	case 0:
		b.Machines[rnd.Intn(len(b.Machines))] += rnd.Intn(5) - 2
	case 1:
		b.Of = x.Drawing + rnd.Intn(2)
	case 2:
		h.Drawing = x.Drawing
	case 3:
		h.Letter += rnd.Intn(3) - 1
	case 4:
		h.Count.Lo += rnd.Intn(7) - 3
	case 5:
		h.Count.Hi += rnd.Intn(7) - 3
	case 6:
		r.Number += rnd.Intn(5) - 2
	case 7:
		r.Machine += rnd.Intn(3) - 1
	case 8:
		r.Drawing, r.Letter = x.Drawing, x.Letter+rnd.Intn(3)-1
	case 9:
		r.Kind = uint8(rnd.Intn(5))
	}
}

// P8.1: any machines, and some in which something was changed, are what the chapter tells.
func TestCheckIsNaive(t *testing.T) {
	rnd := rand.New(rand.NewSource(119))
	seen := map[api.Errno]int{}
	for range 6000 {
		b := someBuilt(rnd)
		if len(b.Machines) > 0 {
			for _, number := range someNumbers(rnd, rnd.Intn(api.MaxReports+1)) {
				b.Reports = append(b.Reports, someReport(rnd, b, number))
			}
		}
		for range rnd.Intn(3) {
			if len(b.Heaps) > 0 && len(b.Reports) > 0 {
				spoil(rnd, &b)
			}
		}
		if len(b.Notes.Notes) > 0 && rnd.Intn(10) == 0 {
			b.Notes.Notes[0].From = 0
		}
		e := built.Check(b)
		if want := naive(b); e != want {
			t.Fatal(b, e, want)
		}
		seen[e]++
	}
	if seen[api.OK] < 1000 || seen[api.ErrBuilt] < 1000 || seen[api.ErrNotes] < 100 {
		t.Error("few of a kind:", seen)
	}
}

// arguments are all that functions get besides machines.
type arguments struct {
	signed        []int
	heap, machine int
	issue         api.Ref
	report        api.Report
}

func told[T any](x T, e api.Errno) (string, api.Errno) { return fmt.Sprint(x), e }

// functions returns all functions of the chapter but Check.
func functions() []trial.Function[api.Built, arguments] {
	return []trial.Function[api.Built, arguments]{
		trial.Of("Signed", "", func(b api.Built, _ arguments) (string, api.Errno) { return told(built.Signed(b)) }),
		trial.Of("Counts", "truth heap", func(b api.Built, a arguments) (string, api.Errno) {
			return told(built.Counts(b, a.signed, a.heap))
		}),
		trial.Of("Pieces", "machine issue", func(b api.Built, a arguments) (string, api.Errno) {
			return told(built.Pieces(b, a.machine, a.issue))
		}),
		trial.Of("Known", "machine issue", func(b api.Built, a arguments) (string, api.Errno) {
			return told(built.Known(b, a.machine, a.issue))
		}),
		trial.Of("Parts", "machine", func(b api.Built, a arguments) (string, api.Errno) { return told(built.Parts(b, a.machine)) }),
		trial.Of("Until", "heap", func(b api.Built, a arguments) (string, api.Errno) { return told(built.Until(b, a.heap)) }),
		trial.Of("Settled", "", func(b api.Built, _ arguments) (string, api.Errno) { return told(built.Settled(b)) }),
		trial.Of("Clash", "", func(b api.Built, _ arguments) (string, api.Errno) { return told(built.Clash(b)) }),
		trial.Of("Withdraw", "", func(b api.Built, _ arguments) (string, api.Errno) { return told(built.Withdraw(b)) }),
		trial.Of("Add", "report", func(b api.Built, a arguments) (string, api.Errno) { return told(built.Add(b, a.report)) }),
	}
}

func isNothing(results string) bool {
	return slices.Contains([]string{"[]", "0", fmt.Sprint(api.Span{}), fmt.Sprint(api.Built{})}, results)
}

// good returns arguments that are good for the machines of the examples.
func good() arguments {
	return arguments{[]int{102}, 0, 9, ref(30, 2), has(8, 6, 50, 1)}
}

// P8.1, R1, R2: Check's errors come first, then ErrTruth, ErrArg and ErrNone; ErrBad comes last; nothing else with them.
func TestOrderOfErrors(t *testing.T) {
	bad := arguments{[]int{101}, 1, 5, ref(10, 1), has(2, 5, 50, 1)}
	for _, of := range []map[string]api.Built{wrongBuilt(), wrongNotes()} {
		for _, early := range trial.Early(functions(), of, []arguments{good(), bad, {}}, built.Check, isNothing) {
			t.Error(early)
		}
	}
	wrongs := []trial.Wrong[arguments]{
		trial.Badly("truth", func(a *arguments) { a.signed = bad.signed }, api.ErrTruth),
		trial.Badly("machine", func(a *arguments) { a.machine = bad.machine }, api.ErrArg),
		trial.Badly("heap", func(a *arguments) { a.heap = bad.heap }, api.ErrArg),
		trial.Badly("issue", func(a *arguments) { a.issue = bad.issue }, api.ErrNone),
		trial.Badly("report", func(a *arguments) { a.report = bad.report }, api.ErrReport),
	}
	for _, b := range []api.Built{example(), toldExample(), example(has(2, 9, 30, 2))} {
		for _, wrong := range trial.Disordered(functions(), b, good(), wrongs, isNothing) {
			t.Error(b, wrong)
		}
	}
	none := example(has(2, 4, 30, 2))
	a := good()
	for _, f := range functions() {
		isBad := !slices.Contains([]string{"Signed", "Clash", "Withdraw", "Add"}, f.Name)
		if text, e := f.Call(none, a); isBad && (e != api.ErrBad || !isNothing(text)) || !isBad && e != api.OK {
			t.Error(f.Name, text, e)
		}
		for _, x := range wrongs {
			wrong := a
			x.Make(&wrong)
			if text, e := f.Call(none, wrong); f.Has(x.Word) && (e != x.Error || !isNothing(text)) {
				t.Error(f.Name, x.Word, text, e)
			}
		}
	}
}

// P8.2 to P8.5: whatever is no truth, no heap, none of the machines or no issue of a part is the error that is named for it.
func TestWrongArguments(t *testing.T) {
	type wrong struct {
		word string
		a    arguments
		e    api.Errno
	}
	var l []wrong
	add := func(word string, e api.Errno, change func(a *arguments)) {
		a := good()
		change(&a)
		l = append(l, wrong{word, a, e})
	}
	for _, signed := range [][]int{{101}, {103}, {0}, {-102}, {102, 102}, {101, 102}, {102, 103}} {
		add("truth", api.ErrTruth, func(a *arguments) { a.signed = signed })
	}
	for _, far := range append(trial.Far(), 1, 2, 3, 5, 10, 999) {
		if far != 0 {
			add("heap", api.ErrArg, func(a *arguments) { a.heap = far })
		}
		add("machine", api.ErrArg, func(a *arguments) { a.machine = far })
		add("issue", api.ErrNone, func(a *arguments) { a.issue.Drawing = far })
		if far != 1 && far != 2 {
			add("issue", api.ErrNone, func(a *arguments) { a.issue.Letter = far })
		}
	}
	for _, x := range []api.Ref{ref(10, 1), ref(10, 2), ref(20, 1), ref(40, 2), ref(50, 2), ref(50, 0), {}} {
		add("issue", api.ErrNone, func(a *arguments) { a.issue = x })
	}
	for _, x := range l {
		for _, f := range functions() {
			text, e := f.Call(example(), x.a)
			if f.Has(x.word) && (e != x.e || !isNothing(text)) || !f.Has(x.word) && e != api.OK {
				t.Error(f.Name, x, text, e)
			}
		}
	}
}
