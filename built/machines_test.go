package built_test

import (
	"fmt"
	"math/rand"
	"slices"
	"testing"

	"blueline/api"
	"blueline/built"
	"blueline/note"
	"blueline/sheet"
	"blueline/trial"
)

func ref(drawing, letter int) api.Ref { return api.Ref{Drawing: drawing, Letter: letter} }

func span(lo, hi int) api.Span { return api.Span{Lo: lo, Hi: hi} }

// Short names of what is in nearly every test.
var (
	heap, report   = trial.Heap, trial.Report
	has, all, none = trial.Has, trial.All, trial.None
	partsOf, clone = trial.PartsOf, trial.CloneBuilt
	someBuilt      = trial.SomeBuilt
	someReport     = trial.SomeReport
	someNumbers    = trial.SomeNumbers
)

// exampleNotes returns the notes of the chapter's examples.
func exampleNotes() api.Notes {
	return trial.Noted(trial.UsingUp(trial.Gives(101, 100, 30, 2, 5, 999)), trial.As(api.KnownOpen, trial.Gives(102, 200, 10, 2, 8, 20)))
}

// example returns the machines of the chapter's examples, with reports.
func example(reports ...api.Report) api.Built {
	return api.Built{Notes: exampleNotes(), Of: 10, Machines: []int{4, 6, 9}, Heaps: []api.Heap{heap(30, 1, 5, 9)}, Reports: reports}
}

// told returns the machines of the examples with a report of each kind, all of which hold in a truth.
func toldExample() api.Built {
	return example(has(1, 9, 40, 1), none(2, 6, 30, 2), all(7, 4, 50, 1))
}

// changed returns the machines of the examples, with reports, with a change.
func changed(change func(b *api.Built)) api.Built {
	b := toldExample()
	change(&b)
	return b
}

// full returns machines with as many of all things as there may be, and truths that matter.
func full() api.Built {
	b := api.Built{Of: 1}
	var items []int
	for i := range api.MaxItems {
		items = append(items, 2+i, 1+i)
	}
	for k := range 3 {
		b.Notes.Register.Issues = append(b.Notes.Register.Issues, trial.Assembly(1, 1+k, items...))
	}
	for i := range api.MaxIssues - 3 {
		b.Notes.Register.Issues = append(b.Notes.Register.Issues, trial.Part(2+i/3, 1+i%3))
	}
	for i := range api.MaxNotes {
		x := trial.UsingUp(trial.Gives(100-i, i, 2+i%4, 2+i/4%2, 1+20*i, 500+40*i))
		if i < api.MaxOpen {
			x.Signed = api.KnownOpen
		}
		b.Notes.Notes = append(b.Notes.Notes, x)
	}
	for i := range api.MaxBuilds {
		b.Machines = append(b.Machines, 1+80*i)
	}
	for i := range api.MaxHeaps {
		b.Heaps = append(b.Heaps, heap(2+i%3, 1+i/3, 0, api.MaxPile))
	}
	for i := range api.MaxReports {
		b.Reports = append(b.Reports, has(1+i, b.Machines[i], 6+i%4, 1))
		if i%2 == 0 {
			b.Reports[i] = none(1+i, b.Machines[0], 2+i%4, 3)
		}
	}
	return b
}

// valid returns machines of which something is at its end.
func valid() map[string]api.Built {
	return map[string]api.Built{
		"the examples": example(), "with reports": toldExample(), "full": full(),
		"no machines":   {Notes: exampleNotes(), Of: 10, Heaps: []api.Heap{heap(30, 1, 5, 9)}},
		"no heaps":      changed(func(b *api.Built) { b.Heaps = nil }),
		"no notes":      changed(func(b *api.Built) { b.Notes.Notes = nil }),
		"a part":        {Notes: api.Notes{Register: trial.Lettered(api.MaxId, 1)}, Of: api.MaxId, Machines: []int{999}},
		"nothing at it": changed(func(b *api.Built) { b.Of, b.Reports = 40, nil }),
		"other parts":   changed(func(b *api.Built) { b.Of = 20; b.Reports[1].Machine = 9 }),
		"ends":          changed(func(b *api.Built) { b.Machines, b.Reports = []int{1, 999}, []api.Report{has(api.MaxId, 999, 50, 1)} }),
		"no old pieces": changed(func(b *api.Built) { b.Heaps[0].Count = span(0, 0) }),
		"many of them":  changed(func(b *api.Built) { b.Heaps[0].Count = span(api.MaxPile, api.MaxPile) }),
		"no truth":      example(has(4, 4, 30, 2)),
		"5 open":        openBuilt(),
		"two letters": {
			Notes: api.Notes{Register: trial.Lettered(8, 3), Notes: []api.Note{trial.UsingUp(trial.Gives(1, 0, 8, 2, 1, 4)), trial.UsingUp(trial.Gives(2, 0, 8, 3, 5, 9))}},
			Of:    8, Machines: []int{2, 3, 5, 7}, Heaps: []api.Heap{heap(8, 2, 1, 2), heap(8, 1, 0, 1)},
		},
	}
}

// openBuilt returns machines with as many open notes as there may be, of several parts.
func openBuilt() api.Built {
	b := example(has(3, 6, 30, 1), none(4, 9, 30, 2))
	b.Notes.Register = trial.Register(
		trial.Assembly(10, 1, 20, 2, 30, 1), trial.Assembly(10, 2, 30, 3, 40, 1), trial.Part(20, 1), trial.Part(20, 2), trial.Part(30, 1), trial.Part(30, 2), trial.Part(40, 1), trial.Part(40, 2))
	b.Notes.Notes = nil
	for i, x := range []api.Ref{ref(20, 2), ref(30, 2), ref(40, 2), ref(10, 2), ref(30, 2)} {
		b.Notes.Notes = append(b.Notes.Notes, trial.As(api.KnownOpen, trial.Gives(9-i, i, x.Drawing, x.Letter, 1+i, 20)))
		b.Notes.Notes[i].UseUp = i < 3
	}
	b.Heaps = append(b.Heaps, heap(20, 1, 1, 3), heap(40, 1, 0, 1))
	return b
}

// someReports returns reports, some of which hold in one truth of the machines, some perhaps in none.
func someReports(rnd *rand.Rand, b api.Built, truths []truth) []api.Report {
	if len(b.Machines) == 0 {
		return nil
	}
	one, often := truths[rnd.Intn(len(truths))], rnd.Intn(5)
	var l []api.Report
	for _, number := range someNumbers(rnd, rnd.Intn(api.MaxReports+1)) {
		r := someReport(rnd, b, number)
		for range 20 {
			if one.holds(r) || rnd.Intn(20) < often {
				break
			}
			r = someReport(rnd, b, number)
		}
		l = append(l, r)
	}
	return l
}

// truth is a truth of the machines: the notes that were signed, how many old pieces were on each heap, what each machine has, and which one took a piece from each heap at last.
type truth struct {
	signed, numbers, last []int
	pieces                map[int]map[api.Ref]int
}

// row is what a machine needs in a truth of the notes: parts with letters, and whether old pieces of them are used up.
type row struct {
	machine int
	items   []api.Item
	letters []int // of the items
	usesUp  []bool
}

// rowsOf returns what all machines need in a truth of the notes.
func rowsOf(t *testing.T, b api.Built, signed []int) []row {
	t.Helper()
	var l []row
	for _, m := range b.Machines {
		letters, e := note.Letters(b.Notes, signed, m)
		items, f := sheet.Explode(b.Notes.Register, letters, b.Of)
		if e != api.OK || f != api.OK {
			t.Fatal(b, signed, m, e, f)
		}
		x := row{machine: m, items: items}
		for _, it := range items {
			number, e := note.By(b.Notes, signed, it.Drawing, m)
			if e != api.OK {
				t.Fatal(b, signed, m, it, e)
			}
			x.letters = append(x.letters, letters[slices.Index(trial.DrawingsOf(b.Notes), it.Drawing)])
			x.usesUp = append(x.usesUp, slices.ContainsFunc(b.Notes.Notes, func(x api.Note) bool { return x.Number == number && x.UseUp }))
		}
		l = append(l, x)
	}
	return l
}

// truthsOf returns all truths of the machines, whatever is reported; pieces are taken one by one.
func truthsOf(t *testing.T, b api.Built) []truth {
	t.Helper()
	var l []truth
	for _, signed := range trial.TruthsOf(b.Notes) {
		rows := rowsOf(t, b, signed)
		for _, numbers := range numbersOf(b.Heaps) {
			l = append(l, truthOf(b, signed, numbers, rows))
		}
	}
	return l
}

// numbersOf returns all lists of numbers of old pieces, one for each heap.
func numbersOf(heaps []api.Heap) [][]int {
	l := [][]int{nil}
	for _, h := range heaps {
		var longer [][]int
		for _, numbers := range l {
			for n := h.Count.Lo; n <= h.Count.Hi; n++ {
				longer = append(longer, append(slices.Clone(numbers), n))
			}
		}
		l = longer
	}
	return l
}

// truthOf returns the truth of the machines with such notes and such numbers.
func truthOf(b api.Built, signed, numbers []int, rows []row) truth {
	t := truth{signed, numbers, make([]int, len(numbers)), map[int]map[api.Ref]int{}}
	rest := slices.Clone(numbers)
	for _, x := range rows {
		t.pieces[x.machine] = map[api.Ref]int{}
		for i, it := range x.items {
			own := ref(it.Drawing, x.letters[i])
			from := slices.IndexFunc(b.Heaps, func(h api.Heap) bool { return ref(h.Drawing, h.Letter+1) == own && x.usesUp[i] })
			for range it.Count {
				if from >= 0 && rest[from] > 0 {
					rest[from]--
					t.last[from] = x.machine
					t.pieces[x.machine][ref(own.Drawing, own.Letter-1)]++
				} else {
					t.pieces[x.machine][own]++
				}
			}
		}
	}
	return t
}

// holds reports whether a report holds in a truth.
func (t truth) holds(r api.Report) bool {
	with, others := 0, 0
	for x, count := range t.pieces[r.Machine] {
		if x == ref(r.Drawing, r.Letter) {
			with += count
		} else if x.Drawing == r.Drawing {
			others += count
		}
	}
	switch r.Kind {
	case 1:
		return with > 0
	case 2:
		return with > 0 && others == 0
	}
	return with == 0
}

// leftOf returns the truths in which all reports hold.
func leftOf(truths []truth, reports []api.Report) []truth {
	var l []truth
	for _, t := range truths {
		if !slices.ContainsFunc(reports, func(r api.Report) bool { return !t.holds(r) }) {
			l = append(l, t)
		}
	}
	return l
}

// spanOf returns from what to what a number goes in truths, of which there is one.
func spanOf(truths []truth, number func(truth) int) api.Span {
	s := span(number(truths[0]), number(truths[0]))
	for _, t := range truths {
		s = span(min(s.Lo, number(t)), max(s.Hi, number(t)))
	}
	return s
}

// someTold returns any valid machines, with all of their truths.
func someTold(t *testing.T, rnd *rand.Rand) (api.Built, []truth) {
	b := someBuilt(rnd)
	truths := truthsOf(t, b)
	b.Reports = someReports(rnd, b, truths)
	return b, truths
}

// Machines that are made for tests are valid.
func TestMachines(t *testing.T) {
	rnd := rand.New(rand.NewSource(110))
	for range 300 {
		b, _ := someTold(t, rnd)
		if built.Check(b) != api.OK || fmt.Sprint(clone(b)) != fmt.Sprint(b) {
			t.Fatal(b)
		}
	}
}
