package built_test

import (
	"fmt"
	"maps"
	"math/rand"
	"slices"
	"testing"

	"blueline/api"
	"blueline/built"
	"blueline/sheet"
	"blueline/stock"
	"blueline/trial"
)

// P8.1, P8.2: the examples, and others in which truths are left or not.
func TestSignedExamples(t *testing.T) {
	for i, x := range []struct {
		b    api.Built
		want [][]int
	}{
		{example(), [][]int{nil, {102}}}, {example(has(1, 9, 40, 1)), [][]int{{102}}}, {example(none(1, 9, 40, 1)), [][]int{nil}}, {example(has(4, 4, 30, 2)), nil}, {toldExample(), [][]int{{102}}},
		{example(has(1, 9, 40, 1), none(3, 9, 40, 1)), nil}, {example(all(1, 6, 30, 2)), nil}, {example(all(1, 6, 30, 1)), [][]int{nil, {102}}}, {example(has(1, 6, 30, 2), has(2, 9, 30, 1)), nil},
		{valid()["no machines"], [][]int{nil, {102}}}, {valid()["no notes"], nil}, {valid()["a part"], [][]int{nil}}, {valid()["no heaps"], nil}, {valid()["many of them"], [][]int{{102}}},
		{openBuilt(), [][]int{nil, {6}, {7}, {8}, {9}, {6, 7}, {6, 8}, {6, 9}, {7, 8}, {7, 9}, {8, 9}, {6, 7, 8}, {6, 7, 9}, {6, 8, 9}, {7, 8, 9}, {6, 7, 8, 9}}},
	} {
		l, e := built.Signed(x.b)
		if !slices.EqualFunc(l, x.want, slices.Equal) || e != api.OK {
			t.Error(i, l, e)
		}
	}
}

// P8.2: the examples, and truths that are not left.
func TestCountsExamples(t *testing.T) {
	both := example(has(1, 9, 40, 1), none(2, 6, 30, 2))
	for i, x := range []struct {
		b      api.Built
		signed []int
		heap   int
		want   api.Span
		e      api.Errno
	}{
		{example(), nil, 0, span(5, 9), api.OK}, {example(), []int{102}, 0, span(5, 9), api.OK}, {both, []int{102}, 0, span(7, 9), api.OK}, {both, nil, 0, span(0, 0), api.ErrBad},
		{example(has(1, 6, 30, 2)), nil, 0, span(5, 6), api.OK}, {example(has(1, 9, 30, 1)), nil, 0, span(8, 9), api.OK}, {example(all(1, 9, 30, 2)), nil, 0, span(5, 7), api.OK}, {example(none(1, 9, 30, 1)), nil, 0, span(5, 7), api.OK}, {example(all(1, 6, 30, 1)), nil, 0, span(7, 9), api.OK}, {example(has(1, 6, 30, 1)), nil, 0, span(5, 9), api.OK},
		{example(has(4, 4, 30, 2)), nil, 0, span(0, 0), api.ErrBad}, {example(has(4, 4, 30, 2)), []int{102}, 0, span(0, 0), api.ErrBad},
		{valid()["no machines"], nil, 0, span(5, 9), api.OK}, {valid()["two letters"], nil, 0, span(1, 2), api.OK}, {valid()["two letters"], nil, 1, span(0, 1), api.OK}, {valid()["no old pieces"], []int{102}, 0, span(0, 0), api.ErrBad},
	} {
		if s, e := built.Counts(x.b, x.signed, x.heap); s != x.want || e != x.e {
			t.Error(i, s, e)
		}
	}
}

// P8.3: the examples, and issues that a machine cannot have.
func TestPiecesExamples(t *testing.T) {
	both := example(has(1, 9, 40, 1), none(2, 6, 30, 2))
	for i, x := range []struct {
		b       api.Built
		machine int
		x       api.Ref
		want    api.Span
		known   uint8
		e       api.Errno
	}{
		{example(), 4, ref(30, 1), span(7, 7), 2, api.OK}, {example(), 6, ref(30, 1), span(5, 7), 2, api.OK}, {example(), 9, ref(30, 1), span(0, 2), 1, api.OK}, {example(), 4, ref(30, 2), span(0, 0), 0, api.OK}, {example(), 6, ref(30, 2), span(0, 2), 1, api.OK}, {example(), 9, ref(30, 2), span(3, 7), 2, api.OK},
		{example(), 9, ref(40, 1), span(0, 2), 1, api.OK}, {example(), 6, ref(40, 1), span(0, 0), 0, api.OK}, {example(), 9, ref(50, 1), span(1, 2), 2, api.OK}, {example(has(1, 9, 40, 1)), 9, ref(50, 1), span(1, 1), 2, api.OK}, {both, 9, ref(30, 1), span(0, 2), 1, api.OK}, {both, 9, ref(30, 2), span(3, 5), 2, api.OK}, {both, 6, ref(30, 1), span(7, 7), 2, api.OK},
		{valid()["other parts"], 9, ref(30, 1), span(0, 0), 0, api.ErrBad}, {valid()["nothing at it"], 9, ref(40, 1), span(1, 1), 2, api.OK}, {valid()["nothing at it"], 9, ref(30, 1), span(0, 0), 0, api.OK}, {valid()["nothing at it"], 9, ref(30, 2), span(0, 0), 0, api.OK},
		{example(has(4, 4, 30, 2)), 4, ref(30, 1), span(0, 0), 0, api.ErrBad}, {example(has(4, 4, 30, 2)), 4, ref(50, 1), span(0, 0), 0, api.ErrBad}, {example(has(4, 4, 30, 2)), 4, ref(10, 1), span(0, 0), 0, api.ErrNone}, {example(has(4, 4, 30, 2)), 5, ref(50, 1), span(0, 0), 0, api.ErrArg},
		// One old B for 5 and 7, or two of them; none or one A for 2 and 3.
		{valid()["two letters"], 5, ref(8, 2), span(1, 1), 2, api.OK}, {valid()["two letters"], 7, ref(8, 2), span(0, 1), 1, api.OK}, {valid()["two letters"], 7, ref(8, 3), span(0, 1), 1, api.OK}, {valid()["two letters"], 2, ref(8, 1), span(0, 1), 1, api.OK}, {valid()["two letters"], 3, ref(8, 1), span(0, 0), 0, api.OK}, {valid()["two letters"], 3, ref(8, 2), span(1, 1), 2, api.OK}, {valid()["two letters"], 5, ref(8, 1), span(0, 0), 0, api.OK},
	} {
		s, e := built.Pieces(x.b, x.machine, x.x)
		known, f := built.Known(x.b, x.machine, x.x)
		if s != x.want || e != x.e || known != x.known || f != x.e {
			t.Error(i, s, e, known, f)
		}
	}
}

// P8.4: the examples, and machines that have less.
func TestPartsExamples(t *testing.T) {
	holding := func(drawing, letter, lo, hi int) api.Holding {
		return api.Holding{Issue: ref(drawing, letter), Count: span(lo, hi)}
	}
	for i, x := range []struct {
		b       api.Built
		machine int
		want    []api.Holding
		e       api.Errno
	}{
		{example(), 9, []api.Holding{holding(30, 1, 0, 2), holding(30, 2, 3, 7), holding(40, 1, 0, 2), holding(50, 1, 1, 2)}, api.OK},
		{example(), 4, []api.Holding{holding(30, 1, 7, 7), holding(50, 1, 2, 2)}, api.OK}, {example(), 6, []api.Holding{holding(30, 1, 5, 7), holding(30, 2, 0, 2), holding(50, 1, 2, 2)}, api.OK},
		{example(none(1, 9, 40, 1), none(2, 9, 30, 1)), 9, []api.Holding{holding(30, 2, 7, 7), holding(50, 1, 2, 2)}, api.OK}, {toldExample(), 6, []api.Holding{holding(30, 1, 7, 7), holding(50, 1, 2, 2)}, api.OK},
		{valid()["nothing at it"], 6, []api.Holding{holding(40, 1, 1, 1)}, api.OK}, {valid()["a part"], 999, []api.Holding{holding(api.MaxId, 1, 1, 1)}, api.OK},
		{example(has(4, 4, 30, 2)), 9, nil, api.ErrBad}, {example(has(4, 4, 30, 2)), 5, nil, api.ErrArg}, {example(), 5, nil, api.ErrArg},
	} {
		if l, e := built.Parts(x.b, x.machine); !slices.Equal(l, x.want) || e != x.e {
			t.Error(i, l, e)
		}
	}
}

// P8.5: the examples, and heaps from which no machine takes.
func TestUntilExamples(t *testing.T) {
	for i, x := range []struct {
		b    api.Built
		heap int
		want api.Span
		e    api.Errno
	}{
		{example(), 0, span(6, 9), api.OK}, {example(has(1, 9, 30, 1)), 0, span(9, 9), api.OK}, {example(has(1, 6, 30, 2)), 0, span(6, 6), api.OK}, {example(has(4, 4, 30, 2)), 0, span(0, 0), api.ErrBad},
		{valid()["no machines"], 0, span(0, 0), api.OK}, {valid()["nothing at it"], 0, span(0, 0), api.OK}, {valid()["two letters"], 0, span(5, 7), api.OK}, {valid()["two letters"], 1, span(0, 2), api.OK}, {valid()["two letters"], 2, span(0, 0), api.ErrArg}, {valid()["no heaps"], 0, span(0, 0), api.ErrArg},
		{valid()["ends"], 0, span(999, 999), api.OK}, {valid()["no old pieces"], 0, span(0, 0), api.ErrBad},
	} {
		if s, e := built.Until(x.b, x.heap); s != x.want || e != x.e {
			t.Error(i, s, e)
		}
	}
}

// P8.6: the examples, and notes in another order than their Numbers.
func TestSettledExamples(t *testing.T) {
	for i, x := range []struct {
		b    api.Built
		want []uint8
		e    api.Errno
	}{
		{example(), []uint8{1}, api.OK}, {example(has(1, 9, 40, 1)), []uint8{2}, api.OK}, {example(none(1, 9, 40, 1)), []uint8{0}, api.OK}, {example(has(4, 4, 30, 2)), nil, api.ErrBad},
		{openBuilt(), []uint8{1, 1, 1, 1, 0}, api.OK}, {valid()["a part"], nil, api.OK}, {valid()["two letters"], nil, api.OK},
	} {
		if l, e := built.Settled(x.b); !slices.Equal(l, x.want) || e != x.e {
			t.Error(i, l, e)
		}
	}
}

// signedOf returns which notes are signed in truths, those with fewer Numbers first.
func signedOf(truths []truth) [][]int {
	var l [][]int
	for _, t := range truths {
		if !slices.ContainsFunc(l, func(other []int) bool { return slices.Equal(other, t.signed) }) {
			l = append(l, t.signed)
		}
	}
	slices.SortFunc(l, func(x, y []int) int {
		if len(x) != len(y) {
			return len(x) - len(y)
		}
		return slices.Compare(x, y)
	})
	return l
}

// checkSpan checks from what to what a number goes, in truths, or that there is none.
func checkSpan(t *testing.T, b api.Built, name string, truths []truth, number func(truth) int, s api.Span, e api.Errno) {
	t.Helper()
	if len(truths) == 0 {
		if s != (api.Span{}) || e != api.ErrBad {
			t.Fatal(b, name, s, e)
		}
	} else if want := spanOf(truths, number); s != want || e != api.OK {
		t.Fatal(b, name, s, e, want)
	}
}

// checkHeaps checks Counts, in some truths of the notes, and Until.
func checkHeaps(t *testing.T, rnd *rand.Rand, b api.Built, left []truth) {
	t.Helper()
	for i := range b.Heaps {
		for range 4 {
			signed := trial.SomeTruth(rnd, b.Notes)
			these := slices.DeleteFunc(slices.Clone(left), func(x truth) bool { return !slices.Equal(x.signed, signed) })
			s, e := built.Counts(b, signed, i)
			checkSpan(t, b, fmt.Sprint("Counts ", signed, i), these, func(x truth) int { return x.numbers[i] }, s, e)
		}
		s, e := built.Until(b, i)
		checkSpan(t, b, fmt.Sprint("Until ", i), left, func(x truth) int { return x.last[i] }, s, e)
	}
}

// checkPieces checks Pieces, Known and Parts of some machines.
func checkPieces(t *testing.T, rnd *rand.Rand, b api.Built, left []truth) {
	t.Helper()
	for range min(2, len(b.Machines)) {
		m := b.Machines[rnd.Intn(len(b.Machines))]
		var want []api.Holding
		for _, x := range partsOf(b.Notes) {
			count := func(one truth) int { return one.pieces[m][x] }
			s, e := built.Pieces(b, m, x)
			checkSpan(t, b, fmt.Sprint("Pieces ", m, x), left, count, s, e)
			known, f := built.Known(b, m, x)
			if f != e || known != knownOf(left, count) {
				t.Fatal(b, m, x, known, f)
			}
			if s.Hi > 0 {
				want = append(want, api.Holding{Issue: x, Count: s})
			}
		}
		l, e := built.Parts(b, m)
		if !slices.Equal(l, want) || (e == api.OK) != (len(left) > 0) || e != api.OK && e != api.ErrBad {
			t.Fatal(b, m, l, e, want)
		}
	}
}

// knownOf returns whether a number is above 0 in all truths, in none, or in some.
func knownOf(truths []truth, number func(truth) int) uint8 {
	isAbove := func(x truth) bool { return number(x) > 0 }
	isNot := func(x truth) bool { return number(x) == 0 }
	switch {
	case !slices.ContainsFunc(truths, isAbove):
		return 0
	case !slices.ContainsFunc(truths, isNot):
		return 2
	}
	return 1
}

// checkSigned checks Signed and Settled.
func checkSigned(t *testing.T, b api.Built, left []truth) {
	t.Helper()
	l, e := built.Signed(b)
	if want := signedOf(left); !slices.EqualFunc(l, want, slices.Equal) || e != api.OK {
		t.Fatal(b, l, e, want)
	}
	var want []uint8
	for _, x := range b.Notes.Notes {
		if x.Signed == api.KnownOpen {
			want = append(want, knownOf(left, func(one truth) int {
				if slices.Contains(one.signed, x.Number) {
					return 1
				}
				return 0
			}))
		}
	}
	settled, e := built.Settled(b)
	if len(left) == 0 && (len(settled) > 0 || e != api.ErrBad) || len(left) > 0 && (!slices.Equal(settled, want) || e != api.OK) {
		t.Fatal(b, settled, e, want)
	}
}

// P8.1 to P8.6, P8.9: what is told is what is so in the truths that are left, one by one; no span is wider than these.
func TestTold(t *testing.T) {
	rnd := rand.New(rand.NewSource(111))
	bad, several, open := 0, 0, 0
	for range 200 {
		b, truths := someTold(t, rnd)
		left := leftOf(truths, b.Reports)
		checkSigned(t, b, left)
		checkHeaps(t, rnd, b, left)
		checkPieces(t, rnd, b, left)
		if len(left) == 0 {
			bad++
		} else if len(b.Reports) > 2 && len(left) < len(truths) {
			several++
		}
		if len(signedOf(left)) > 1 && len(b.Heaps) > 1 {
			open++
		}
	}
	if min(bad, several, open) < 20 {
		t.Error("few of a kind:", bad, several, open)
	}
}

// exactly returns machines with one number of old pieces on each heap, and one truth of the notes, without reports.
func exactly(b api.Built, signed []int, numbers []int) api.Built {
	b = clone(b)
	b.Reports = nil
	for i, n := range numbers {
		b.Heaps[i].Count = span(n, n)
	}
	for i, x := range b.Notes.Notes {
		if x.Signed == api.KnownOpen {
			b.Notes.Notes[i].Signed = api.KnownNo
			if slices.Contains(signed, x.Number) {
				b.Notes.Notes[i].Signed = api.KnownYes
			}
		}
	}
	return b
}

// exact returns how many pieces of an issue a machine has, in the only truth that there is.
func exact(t *testing.T, b api.Built, machine int, x api.Ref) int {
	t.Helper()
	s, e := built.Pieces(b, machine, x)
	if s.Lo != s.Hi || e != api.OK {
		t.Fatal(b, machine, x, s, e)
	}
	return s.Lo
}

// P8.12, P8.13: machines take from a heap what the plan of a stock gives them, which has it as a pile; no more than there was, and none after one that had to do without.
func TestHeapsAreUsedUp(t *testing.T) {
	rnd := rand.New(rand.NewSource(112))
	ended, took := 0, 0
	for range 400 {
		b := someBuilt(rnd)
		signed, numbers := trial.SomeTruth(rnd, b.Notes), numbersOf(b.Heaps)[0]
		b = exactly(b, signed, numbers)
		rows := rowsOf(t, b, nil)
		for i, h := range b.Heaps {
			var machines []int // all that take from the heap, or would
			for _, x := range rows {
				if k := slices.IndexFunc(x.items, func(it api.Item) bool { return it.Drawing == h.Drawing }); k >= 0 && x.usesUp[k] && x.letters[k] == h.Letter+1 {
					machines = append(machines, x.machine)
				}
			}
			last, e := sheet.Last(b.Notes.Register, h.Drawing)
			s := api.Stock{Notes: b.Notes, Of: b.Of, Drawing: h.Drawing, Piles: make([]int, last), Machines: machines}
			s.Piles[h.Letter-1] = numbers[i]
			plan, f := stock.Plan(s, nil)
			if e != api.OK || f != api.OK {
				t.Fatal(b, s, e, f)
			}
			rest, isEnded := numbers[i], false
			for k, m := range machines {
				old := exact(t, b, m, ref(h.Drawing, h.Letter))
				if rest -= old; old != plan[k][h.Letter-1] || rest < 0 || isEnded && old > 0 {
					t.Fatal(b, i, m, old, plan)
				}
				if took += old; exact(t, b, m, ref(h.Drawing, h.Letter+1)) > 0 {
					isEnded = true
				}
			}
			if isEnded {
				ended++
			}
		}
	}
	if ended < 30 || took < 100 {
		t.Error("few of a kind:", ended, took)
	}
}

// P8.14: a machine has as many pieces of a drawing as its tree has ends of it; without heaps each has its letter.
func TestMachinesAreTheirTrees(t *testing.T) {
	rnd := rand.New(rand.NewSource(113))
	for i := range 300 {
		b := someBuilt(rnd)
		if i%2 == 0 {
			b.Heaps = nil
		}
		b = exactly(b, trial.SomeTruth(rnd, b.Notes), numbersOf(b.Heaps)[0])
		for _, x := range rowsOf(t, b, nil) {
			counts, needs, want := map[int]int{}, map[int]int{}, map[api.Ref]int{}
			for k, it := range x.items {
				needs[it.Drawing] = it.Count
				want[ref(it.Drawing, x.letters[k])] = it.Count
			}
			l, e := built.Parts(b, x.machine)
			if e != api.OK {
				t.Fatal(b, x.machine, e)
			}
			for _, y := range l {
				counts[y.Issue.Drawing] += y.Count.Lo
				if b.Heaps == nil && (y.Count != span(want[y.Issue], want[y.Issue]) || y.Count.Lo == 0) {
					t.Fatal(b, x.machine, y, want)
				}
			}
			if !maps.Equal(counts, needs) {
				t.Fatal(b, x.machine, l, needs)
			}
		}
	}
}
