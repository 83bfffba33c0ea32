package note_test

import (
	"fmt"
	"math"
	"math/rand"
	"slices"
	"testing"

	"blueline/api"
	"blueline/note"
	"blueline/sheet"
	"blueline/trial"
)

// wrongNotes returns notes that are not valid, with registers that are.
func wrongNotes() map[string]api.Notes {
	m := map[string]api.Notes{
		"13 notes":           {Register: trial.Lettered(7, 8), Notes: append(slices.Clone(thread().Notes), trial.Gives(13, 99, 7, 1, 1, 1))},
		"number twice":       changed(func(l []api.Note) { l[3].Number = 101 }),
		"twice in a day":     trial.Noted(trial.Gives(1, 0, 10, 1, 1, 1), trial.Gives(1, 0, 10, 2, 1, 1)),
		"days turned":        changed(func(l []api.Note) { l[1].Day = 99 }),
		"last day turned":    changed(func(l []api.Note) { l[3].Day = 299 }),
		"numbers turned":     trial.Noted(trial.Gives(2, 5, 10, 1, 1, 1), trial.Gives(1, 5, 10, 1, 1, 1)),
		"turned around one":  trial.Noted(trial.Gives(3, 5, 10, 1, 1, 1), trial.Gives(1, 6, 10, 1, 1, 1), trial.Gives(2, 5, 10, 1, 1, 1)),
		"6 open":             {Register: trial.Lettered(7, 8), Notes: open(6)},
		"from above to":      changed(func(l []api.Note) { l[1].From = 21 }),
		"from above last to": changed(func(l []api.Note) { l[3].To = 14 }),
		"no such letter":     changed(func(l []api.Note) { l[0].Letter = 3 }),
		"no letter":          changed(func(l []api.Note) { l[0].Letter = 0 }),
		"no letter, cancels": changed(func(l []api.Note) { l[2].Drawing = 10 }),
		"letter alone":       changed(func(l []api.Note) { l[2].Letter = 1 }),
		"no such drawing":    changed(func(l []api.Note) { l[3].Drawing = 35 }),
		"other's letter":     changed(func(l []api.Note) { l[0].Drawing = 40 }),
		"nothing":            changed(func(l []api.Note) { l[2].Cancels = 0 }),
		"nothing at first":   trial.Noted(api.Note{Number: 1, Signed: api.KnownYes, From: 1, To: 1}),
		"zero":               trial.Noted(api.Note{}),
		"cancels itself":     changed(func(l []api.Note) { l[2].Cancels = 103 }),
		"gives, and itself":  changed(func(l []api.Note) { l[1].Cancels = 102 }),
		"cancels the next":   changed(func(l []api.Note) { l[2].Cancels = 104 }),
		"first cancels next": changed(func(l []api.Note) { l[0].Cancels = 102 }),
		"cancels no note":    changed(func(l []api.Note) { l[2].Cancels = 100 }),
		"a way of A":         changed(func(l []api.Note) { l[3].Ways = api.WayOld }),
		"A is used up":       changed(func(l []api.Note) { l[3].UseUp = true }),
		"a way of nothing":   changed(func(l []api.Note) { l[2].Ways = api.WayNew }),
		"nothing is used up": changed(func(l []api.Note) { l[2].UseUp = true }),
	}
	for _, k := range []uint8{3, 4, 5, 128, 254, 255} {
		m[fmt.Sprint("signed ", k)] = changed(func(l []api.Note) { l[0].Signed = k })
		m[fmt.Sprint("last signed ", k)] = changed(func(l []api.Note) { l[3].Signed = k })
		if k > 3 {
			m[fmt.Sprint("ways ", k)] = changed(func(l []api.Note) { l[0].Ways = k })
		}
	}
	for _, far := range trial.Far() {
		m[fmt.Sprint("drawing ", far)] = changed(func(l []api.Note) { l[0].Drawing = far })
		m[fmt.Sprint("letter ", far)] = changed(func(l []api.Note) { l[3].Letter = far })
		if far != 0 {
			m[fmt.Sprint("cancels ", far)] = changed(func(l []api.Note) { l[2].Cancels = far })
			m[fmt.Sprint("gives, and cancels ", far)] = changed(func(l []api.Note) { l[3].Cancels = far })
		}
		if far < 257 || far > api.MaxId {
			m[fmt.Sprint("number ", far)] = trial.Noted(trial.Gives(far, 0, 10, 1, 1, 1))
			m[fmt.Sprint("both machines ", far)] = trial.Noted(trial.Gives(1, 0, 10, 1, far, far))
			m[fmt.Sprint("from ", far)] = trial.Noted(trial.Gives(1, 0, 10, 1, far, 999))
			m[fmt.Sprint("to ", far)] = trial.Noted(trial.Gives(1, 0, 10, 1, 1, far))
		}
	}
	for _, n := range []int{-1, api.MaxDay + 1, math.MinInt, math.MaxInt, 1 << 32, -1 << 32} {
		m[fmt.Sprint("day ", n)] = trial.Noted(trial.Gives(1, n, 10, 1, 1, 1))
		m[fmt.Sprint("last day ", n)] = trial.Noted(trial.Gives(1, 5, 10, 1, 1, 1), trial.Gives(2, n, 10, 1, 1, 1))
	}
	m["machine 1000"] = trial.Noted(trial.Gives(1, 0, 10, 1, 1, 1000))
	m["from 1000 on"] = trial.Noted(trial.Gives(1, 0, 10, 1, 1000, 1000))
	return m
}

// open returns so many open notes.
func open(count int) []api.Note {
	var l []api.Note
	for i := range count {
		l = append(l, trial.As(api.KnownOpen, trial.Gives(1+i, 0, 7, 1+i%8, 1, 9)))
	}
	return l
}

// wrongRegisters returns notes whose registers are not valid, with notes that are, or are not.
func wrongRegisters() map[string]api.Notes {
	m := map[string]api.Notes{}
	circle := trial.Register(trial.Assembly(10, 1, 30, 1), trial.Assembly(10, 2, 30, 1), trial.Assembly(30, 1, 10, 1), trial.Assembly(30, 2, 10, 1))
	for name, n := range map[string]api.Notes{"good": example(), "none": {}, "wrong": wrongNotes()["zero"], "13": wrongNotes()["13 notes"]} {
		m["no register, "+name] = api.Notes{Notes: n.Notes}
		m["a circle, "+name] = api.Notes{Register: circle, Notes: n.Notes}
		bad := trial.Example()
		bad.Issues[6].Kind = 4
		m["a wrong kind, "+name] = api.Notes{Register: bad, Notes: n.Notes}
	}
	return m
}

// P3.1: what is valid is OK, what is not ErrNotes; the register's error comes first.
func TestCheck(t *testing.T) {
	for name, n := range valid() {
		if e := note.Check(n); e != api.OK {
			t.Error(name, e)
		}
	}
	for name, n := range wrongNotes() {
		if e := note.Check(n); e != api.ErrNotes {
			t.Error(name, e)
		}
	}
	seen := map[api.Errno]bool{}
	for name, n := range wrongRegisters() {
		e := note.Check(n)
		if e == api.OK || e != sheet.Check(n.Register) {
			t.Error(name, e)
		}
		seen[e] = true
	}
	if len(seen) != 2 {
		t.Error("not both errors of registers:", seen)
	}
	for name, n := range map[string]api.Notes{"5 open": {Register: trial.Lettered(7, 8), Notes: open(5)}, "5 of 12": thread()} {
		if e := note.Check(n); e != api.OK {
			t.Error(name, e)
		}
	}
}

// isIssue reports whether a register has an issue, or nothing is asked for.
func isIssue(r api.Register, drawing, letter int) bool {
	if drawing == 0 && letter == 0 {
		return true
	}
	_, e := sheet.At(r, api.Ref{Drawing: drawing, Letter: letter})
	return e == api.OK
}

// naive tells what Check has to return, as slowly as the chapter does.
func naive(n api.Notes) api.Errno {
	if e := sheet.Check(n.Register); e != api.OK {
		return e
	}
	numbers := map[int]bool{}
	for i, x := range n.Notes {
		good := 1 <= x.Number && x.Number <= 9999 && !numbers[x.Number] && 0 <= x.Day && x.Day <= 14610
		good = good && (i == 0 || trial.InOrder(n.Notes[i-1], x) < 0)
		good = good && x.Signed <= 2 && 1 <= x.From && x.From <= x.To && x.To <= 999
		good = good && isIssue(n.Register, x.Drawing, x.Letter) && (x.Cancels == 0 || numbers[x.Cancels])
		good = good && (x.Drawing != 0 || x.Cancels != 0) && x.Ways <= 3
		if !good || x.Letter < 2 && (x.Ways != 0 || x.UseUp) {
			return api.ErrNotes
		}
		numbers[x.Number] = true
	}
	if len(n.Notes) > 12 || len(trial.OpenOf(n)) > 5 {
		return api.ErrNotes
	}
	return api.OK
}

// spoil changes something of a note, so that it may not be valid any more.
func spoil(rnd *rand.Rand, l []api.Note) {
	x, other := &l[rnd.Intn(len(l))], l[rnd.Intn(len(l))]
	switch near := rnd.Intn(5) - 2; rnd.Intn(12) {
	case 0:
		x.Number = other.Number + near
	case 1:
		x.Day += near
	case 2:
		x.Signed = uint8(rnd.Intn(5))
	case 3:
		x.Signed = api.KnownOpen
	case 4:
		x.Drawing, x.Letter = 0, 0
	case 5:
		x.Drawing = other.Drawing
	case 6:
		x.Letter += near
	case 7:
		x.From = other.To + near
	case 8:
		x.To = other.From + near
	case 9:
		x.Cancels = other.Number
	case 10:
		x.UseUp = true
	case 11:
		x.Ways = uint8(rnd.Intn(6))
	}
}

// P3.1: any notes, and some in which something was changed, are what the chapter tells.
func TestCheckIsNaive(t *testing.T) {
	rnd := rand.New(rand.NewSource(31))
	seen := map[api.Errno]int{}
	for range 20000 {
		n := trial.SomeNotes(rnd)
		for range rnd.Intn(3) {
			if len(n.Notes) > 0 {
				spoil(rnd, n.Notes)
			}
		}
		e := note.Check(n)
		if want := naive(n); e != want {
			t.Fatal(n, e, want)
		}
		seen[e]++
	}
	if seen[api.OK] < 2000 || seen[api.ErrNotes] < 2000 {
		t.Error("few of a kind:", seen)
	}
}

// arguments are all that functions get besides notes.
type arguments struct {
	signed          []int
	drawing, letter int
	machine         int
	number          int
}

func told[T any](l T, e api.Errno) (string, api.Errno) { return fmt.Sprint(l), e }

// functions returns all functions of the chapter but Check.
func functions() []trial.Function[api.Notes, arguments] {
	return []trial.Function[api.Notes, arguments]{
		trial.Of("Force", "truth machine", func(n api.Notes, a arguments) (string, api.Errno) { return told(note.Force(n, a.signed, a.machine)) }),
		trial.Of("Letters", "truth machine", func(n api.Notes, a arguments) (string, api.Errno) {
			return told(note.Letters(n, a.signed, a.machine))
		}),
		trial.Of("By", "truth machine drawing", func(n api.Notes, a arguments) (string, api.Errno) {
			return told(note.By(n, a.signed, a.drawing, a.machine))
		}),
		trial.Of("Stretches", "truth drawing", func(n api.Notes, a arguments) (string, api.Errno) {
			return told(note.Stretches(n, a.signed, a.drawing))
		}),
		trial.Of("First", "truth drawing", func(n api.Notes, a arguments) (string, api.Errno) {
			return told(note.First(n, a.signed, api.Ref{Drawing: a.drawing, Letter: a.letter}))
		}),
		trial.Of("Possible", "machine drawing", func(n api.Notes, a arguments) (string, api.Errno) {
			return told(note.Possible(n, a.drawing, a.machine))
		}),
		trial.Of("Sure", "machine", func(n api.Notes, a arguments) (string, api.Errno) { return told(note.Sure(n, a.machine)) }),
		trial.Of("Matters", "machine", func(n api.Notes, a arguments) (string, api.Errno) { return told(note.Matters(n, a.machine)) }),
		trial.Of("Clash", "truth", func(n api.Notes, a arguments) (string, api.Errno) { return told(note.Clash(n, a.signed)) }),
		trial.Of("Withdraw", "truth", func(n api.Notes, a arguments) (string, api.Errno) { return told(note.Withdraw(n, a.signed)) }),
		trial.Of("Settle", "number", func(n api.Notes, a arguments) (string, api.Errno) { return told(note.Settle(n, a.number, true)) }),
		trial.Of("Settle, not signed", "number", func(n api.Notes, a arguments) (string, api.Errno) { return told(note.Settle(n, a.number, false)) }),
	}
}

// wrongTruths returns lists that tell no truth of the examples.
func wrongTruths() [][]int {
	l := [][]int{{101}, {103}, {104}, {102, 102}, {102, 103}, {101, 102}, {102, 102, 102, 102, 102, 102}, make([]int, 100000), {0, 102}, {102, 0}, {-102}, {1}, {2}}
	for _, far := range trial.Far() {
		l = append(l, []int{far}, []int{102, far}, []int{far, 102})
	}
	return l
}

func isNothing(results string) bool {
	return results == "[]" || results == "0" || results == "{{[]} []}"
}

// P3.1, R1, R2: Check's errors come first, then ErrTruth, then ErrArg, then ErrNone; nothing else with them.
func TestOrderOfErrors(t *testing.T) {
	good := arguments{drawing: 10, letter: 1, machine: 9, number: 102}
	bad := arguments{drawing: 11, letter: 1, machine: 1000, number: 101}
	for _, of := range []map[string]api.Notes{wrongNotes(), wrongRegisters()} {
		other := good
		other.signed = []int{101}
		for _, early := range trial.Early(functions(), of, []arguments{good, bad, {}, other}, note.Check, isNothing) {
			t.Error(early)
		}
	}
	wrongs := []trial.Wrong[arguments]{
		trial.Badly("truth", func(a *arguments) { a.signed = []int{104} }, api.ErrTruth),
		trial.Badly("machine", func(a *arguments) { a.machine = bad.machine }, api.ErrArg),
		trial.Badly("drawing", func(a *arguments) { a.drawing = bad.drawing }, api.ErrNone),
		trial.Badly("number", func(a *arguments) { a.number = bad.number }, api.ErrNone),
	}
	for _, wrong := range trial.Disordered(functions(), example(), good, wrongs, isNothing) {
		t.Error(wrong)
	}
}

// P3.1: whatever tells no truth is ErrTruth, all that do are none; whatever is no machine is ErrArg, and no drawing ErrNone.
func TestWrongArguments(t *testing.T) {
	n := example()
	for _, f := range functions() {
		for _, signed := range wrongTruths() {
			a := arguments{signed, 30, 1, 9, 102}
			if s, e := f.Call(n, a); f.Has("truth") && (e != api.ErrTruth || !isNothing(s)) || !f.Has("truth") && e != api.OK {
				t.Error(f.Name, len(signed), signed[0], s, e)
			}
		}
		for _, far := range append(trial.Far(), 1000, 2000) {
			if far == 257 || far == 266 {
				continue
			}
			if s, e := f.Call(n, arguments{nil, 30, 1, far, 102}); f.Has("machine") && (e != api.ErrArg || !isNothing(s)) || !f.Has("machine") && e != api.OK {
				t.Error(f.Name, far, s, e)
			}
		}
		for _, far := range append(trial.Far(), 1, 9, 35, 100, 102) {
			if s, e := f.Call(n, arguments{nil, far, 1, 9, 102}); f.Has("drawing") && (e != api.ErrNone || !isNothing(s)) || !f.Has("drawing") && e != api.OK {
				t.Error(f.Name, far, s, e)
			}
		}
	}
	for _, a := range []arguments{{machine: 1}, {machine: api.MaxMachine}} {
		for _, f := range functions() {
			a.drawing, a.letter, a.number = 30, 1, 102
			if s, e := f.Call(n, a); e != api.OK {
				t.Error(f.Name, a, s, e)
			}
		}
	}
}

// P3.1: just the parts of the open notes, in increasing order, tell truths.
func TestTruths(t *testing.T) {
	n := thread() // The notes 11, 8, 5 and 2 are open, in this order.
	open := trial.OpenOf(n)
	tells := 0
	for a := range 13 {
		for b := range 13 {
			for c := range 13 {
				l := []int{a, b, c}
				want := api.ErrTruth
				if slices.Contains(open, a) && slices.Contains(open, b) && slices.Contains(open, c) && a < b && b < c {
					want = api.OK
					tells++
				}
				if _, e := note.Force(n, l, 1); e != want {
					t.Error(l, e)
				}
			}
		}
	}
	if tells != 4 {
		t.Error(tells, "truths of three")
	}
	for _, signed := range trial.TruthsOf(n) {
		if _, e := note.Withdraw(n, signed); e != api.OK {
			t.Error(signed, e)
		}
	}
	for known, want := range map[uint8]api.Errno{api.KnownNo: api.ErrTruth, api.KnownOpen: api.OK, api.KnownYes: api.ErrTruth} {
		n := changed(func(l []api.Note) { l[0].Signed = known })
		for _, signed := range [][]int{{101}, {101, 102}} {
			if _, e := note.Letters(n, signed, 1); e != want {
				t.Error(known, signed, e)
			}
		}
	}
}
