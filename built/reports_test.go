package built_test

import (
	"fmt"
	"math/rand"
	"slices"
	"testing"

	"blueline/api"
	"blueline/built"
	"blueline/note"
	"blueline/trial"
)

// P8.3, P8.7: what each kind of report tells, of pieces that are all old, all new, both, or not there.
func TestKinds(t *testing.T) {
	// With 9 old pieces 6 has 7 old ones, and 9 has 2 old and 5 new ones; 4 has A.
	b := example()
	b.Heaps[0].Count, b.Notes.Notes = span(9, 9), b.Notes.Notes[:1]
	for i, x := range []struct {
		machine, drawing, letter int
		has, all, none           bool
	}{
		{4, 30, 1, true, true, false}, {4, 30, 2, false, false, true}, {6, 30, 1, true, true, false}, {6, 30, 2, false, false, true}, {9, 30, 1, true, false, false}, {9, 30, 2, true, false, false},
		{9, 50, 1, true, true, false}, {9, 40, 1, false, false, true}, {4, 40, 1, false, false, true},
	} {
		for kind, holds := range map[uint8]bool{1: x.has, 2: x.all, 3: x.none} {
			b.Reports = []api.Report{report(kind, 7, x.machine, x.drawing, x.letter)}
			l, e := built.Signed(b)
			clash, f := built.Clash(b)
			if (len(l) == 1) != holds || e != api.OK || slices.Equal(clash, []int{7}) == holds || f != api.OK {
				t.Error(i, kind, l, e, clash, f)
			}
		}
	}
}

// P8.7: the examples, and reports of which only several contradict each other.
func TestClashExamples(t *testing.T) {
	for i, x := range []struct {
		b               api.Built
		clash, withdraw []int
	}{
		{example(), nil, nil}, {toldExample(), nil, nil}, {example(has(1, 9, 40, 1), none(3, 9, 40, 1)), nil, []int{1}}, {example(has(4, 4, 30, 2)), []int{4}, []int{4}},
		{example(has(1, 9, 40, 1), none(3, 9, 40, 1), has(5, 9, 40, 1)), nil, []int{3}}, {example(has(1, 4, 30, 2), has(2, 9, 40, 1), none(3, 9, 40, 1), all(4, 4, 30, 2)), []int{1, 4}, []int{1, 2, 4}},
		// The first two hold with few old pieces, the last two with many.
		{example(has(2, 6, 30, 2), all(3, 9, 30, 2), none(5, 6, 30, 2), has(6, 9, 30, 1)), nil, []int{2, 3}}, {example(none(2, 6, 30, 2), has(3, 9, 30, 1), has(5, 6, 30, 2)), nil, []int{5}}, {example(has(2, 6, 30, 2), none(3, 6, 30, 2), all(5, 9, 30, 2)), nil, []int{2}},
		{example(has(2, 6, 30, 2), has(3, 9, 30, 1)), nil, []int{2}}, {valid()["no heaps"], []int{2}, []int{2}}, {valid()["a part"], nil, nil}, {valid()["no machines"], nil, nil},
	} {
		clash, e := built.Clash(x.b)
		withdraw, f := built.Withdraw(x.b)
		if !slices.Equal(clash, x.clash) || !slices.Equal(withdraw, x.withdraw) || e != api.OK || f != api.OK {
			t.Error(i, clash, e, withdraw, f)
		}
	}
}

// without returns machines without some reports.
func without(b api.Built, numbers []int) api.Built {
	b.Reports = slices.DeleteFunc(slices.Clone(b.Reports), func(r api.Report) bool { return slices.Contains(numbers, r.Number) })
	return b
}

// partsOfList returns all lists of some numbers, in their order.
func partsOfList(l []int) [][]int {
	parts := [][]int{nil}
	for _, n := range l {
		for _, p := range parts {
			parts = append(parts, append(slices.Clone(p), n))
		}
	}
	return parts
}

// faultsOf returns the Numbers of the reports that do not hold in a truth.
func faultsOf(x truth, reports []api.Report) []int {
	var l []int
	for _, r := range reports {
		if !x.holds(r) {
			l = append(l, r.Number)
		}
	}
	return l
}

// firstList returns the shortest of some lists, of several ones the first one.
func firstList(lists [][]int) []int {
	return slices.MinFunc(lists, func(x, y []int) int {
		if len(x) != len(y) {
			return len(x) - len(y)
		}
		return slices.Compare(x, y)
	})
}

// mixedReports returns reports, most of which hold in some truth, each in another one.
func mixedReports(rnd *rand.Rand, b api.Built, truths []truth) []api.Report {
	if len(b.Machines) == 0 {
		return nil
	}
	var l []api.Report
	for _, number := range someNumbers(rnd, rnd.Intn(api.MaxReports+1)) {
		r, one := someReport(rnd, b, number), truths[rnd.Intn(len(truths))]
		for k := 0; k < 20 && (!one.holds(r) || holdsInAll(truths, r)); k++ {
			r = someReport(rnd, b, number)
		}
		l = append(l, r)
	}
	return l
}

func holdsInAll(truths []truth, r api.Report) bool {
	return !slices.ContainsFunc(truths, func(x truth) bool { return !x.holds(r) })
}

// P8.7, P8.11: reports clash that hold in no truth; of all lists without which some truth is left the shortest, and first one, is withdrawn.
func TestWithdraw(t *testing.T) {
	rnd := rand.New(rand.NewSource(114))
	clashed, several := 0, 0
	var counts [api.MaxReports + 1]int
	for range 500 {
		b, truths := someTold(t, rnd)
		if rnd.Intn(2) == 0 {
			b.Reports = mixedReports(rnd, b, truths)
		}
		var clash []int
		for _, r := range b.Reports {
			if !slices.ContainsFunc(truths, func(x truth) bool { return x.holds(r) }) {
				clash = append(clash, r.Number)
			}
		}
		var lists [][]int
		for _, x := range truths {
			lists = append(lists, faultsOf(x, b.Reports))
		}
		l, e := built.Clash(b)
		fewest, f := built.Withdraw(b)
		if !slices.Equal(l, clash) || e != api.OK || !slices.Equal(fewest, firstList(lists)) || f != api.OK {
			t.Fatal(b, l, e, clash, fewest, f, firstList(lists))
		}
		counts[len(fewest)]++
		clashed += len(clash)
		if len(clash) < len(fewest) {
			several++
		}
	}
	if min(counts[0], counts[1], counts[2], counts[3], counts[4]) < 10 || clashed < 100 || several < 50 {
		t.Error("few of a kind:", counts, clashed, several)
	}
}

// P8.11: without the reports that are withdrawn a truth is left; without any fewer none is, nor without others before them.
func TestWithoutFewerNoneIsLeft(t *testing.T) {
	rnd := rand.New(rand.NewSource(115))
	for range 60 {
		b, _ := someTold(t, rnd)
		b.Reports = b.Reports[:min(5, len(b.Reports))]
		fewest, e := built.Withdraw(b)
		if e != api.OK {
			t.Fatal(b, e)
		}
		var numbers []int
		for _, r := range b.Reports {
			numbers = append(numbers, r.Number)
		}
		for _, l := range partsOfList(numbers) {
			left, e := built.Signed(without(b, l))
			if e != api.OK {
				t.Fatal(b, l, e)
			}
			isBefore := len(l) < len(fewest) || len(l) == len(fewest) && slices.Compare(l, fewest) < 0
			if isBefore && len(left) > 0 || slices.Equal(l, fewest) && len(left) == 0 {
				t.Fatal(b, fewest, l, left)
			}
		}
	}
}

// isWithin reports whether a span is within another one.
func isWithin(s, other api.Span) bool { return other.Lo <= s.Lo && s.Hi <= other.Hi }

// checkNarrower checks that machines with more reports leave nothing that was not left before.
func checkNarrower(t *testing.T, before, after api.Built) {
	t.Helper()
	l, e := built.Signed(after)
	wide, f := built.Signed(before)
	if e != api.OK || f != api.OK || len(l) == 0 {
		t.Fatal(after, l, e, f)
	}
	for _, signed := range l {
		if !slices.ContainsFunc(wide, func(x []int) bool { return slices.Equal(x, signed) }) {
			t.Fatal(before, after, signed)
		}
		for i := range after.Heaps {
			s, e := built.Counts(after, signed, i)
			if other, f := built.Counts(before, signed, i); !isWithin(s, other) || e != api.OK || f != api.OK {
				t.Fatal(before, after, signed, i, s, other)
			}
		}
	}
	for i := range after.Heaps {
		s, e := built.Until(after, i)
		if other, f := built.Until(before, i); !isWithin(s, other) || e != api.OK || f != api.OK {
			t.Fatal(before, after, i, s, other)
		}
	}
	settled, e := built.Settled(after)
	open, f := built.Settled(before)
	for i, x := range open {
		if x != api.KnownOpen && settled[i] != x || e != api.OK || f != api.OK {
			t.Fatal(before, after, open, settled)
		}
	}
	m := after.Machines[0]
	for _, x := range partsOf(after.Notes) {
		s, e := built.Pieces(after, m, x)
		if other, f := built.Pieces(before, m, x); !isWithin(s, other) || e != api.OK || f != api.OK {
			t.Fatal(before, after, m, x, s, other)
		}
		k, e := built.Known(after, m, x)
		if was, f := built.Known(before, m, x); was != api.KnownOpen && k != was || e != api.OK || f != api.OK {
			t.Fatal(before, after, m, x, was, k)
		}
	}
}

// P8.10: one report more never adds a possibility, as long as a truth is left.
func TestOneReportMore(t *testing.T) {
	rnd := rand.New(rand.NewSource(116))
	checked := 0
	for range 200 {
		b, truths := someTold(t, rnd)
		for i := range b.Reports {
			before, after := b, b
			before.Reports, after.Reports = b.Reports[:i], b.Reports[:i+1]
			if len(leftOf(truths, after.Reports)) == 0 || holdsInAll(leftOf(truths, before.Reports), b.Reports[i]) {
				continue // None, or all of them, are left.
			}
			checkNarrower(t, before, after)
			checked++
		}
	}
	if checked < 20 {
		t.Error("few are checked:", checked)
	}
}

// P8.8: a report is put in its place by its Number; what is not valid is ErrReport, and ErrFull comes first.
func TestAddExamples(t *testing.T) {
	gaps := example(has(3, 9, 40, 1), none(5, 6, 30, 2), all(9, 4, 50, 1))
	long := full()
	long.Reports = long.Reports[:9]
	for i, x := range []struct {
		b    api.Built
		r    api.Report
		want []int
		e    api.Errno
	}{
		{gaps, has(1, 4, 30, 1), []int{1, 3, 5, 9}, api.OK}, {gaps, all(4, 4, 30, 1), []int{3, 4, 5, 9}, api.OK}, {gaps, none(8, 4, 30, 2), []int{3, 5, 8, 9}, api.OK}, {gaps, has(10, 9, 50, 1), []int{3, 5, 9, 10}, api.OK}, {gaps, has(api.MaxId, 9, 50, 1), []int{3, 5, 9, 9999}, api.OK},
		{example(), has(7, 9, 40, 1), []int{7}, api.OK}, {long, has(10, 1, 2, 1), []int{1, 2, 3, 4, 5, 6, 7, 8, 9, 10}, api.OK},
		{gaps, has(4, 4, 30, 2), []int{3, 4, 5, 9}, api.OK}, {gaps, none(4, 9, 40, 1), []int{3, 4, 5, 9}, api.OK}, // No truth is left.
		{gaps, has(3, 9, 40, 1), nil, api.ErrReport}, {gaps, has(9, 4, 30, 1), nil, api.ErrReport}, {gaps, has(5, 4, 30, 1), nil, api.ErrReport}, {gaps, api.Report{}, nil, api.ErrReport}, {gaps, has(0, 4, 30, 1), nil, api.ErrReport}, {gaps, has(api.MaxId+1, 4, 30, 1), nil, api.ErrReport},
		{gaps, has(4, 5, 30, 1), nil, api.ErrReport}, {gaps, has(4, 0, 30, 1), nil, api.ErrReport}, {gaps, has(4, 4, 30, 3), nil, api.ErrReport}, {gaps, has(4, 4, 30, 0), nil, api.ErrReport}, {gaps, has(4, 4, 10, 1), nil, api.ErrReport}, {gaps, has(4, 4, 35, 1), nil, api.ErrReport}, {gaps, report(0, 4, 4, 30, 1), nil, api.ErrReport}, {gaps, report(4, 4, 4, 30, 1), nil, api.ErrReport}, {gaps, report(255, 4, 4, 30, 1), nil, api.ErrReport},
		{valid()["no machines"], has(4, 4, 30, 1), nil, api.ErrReport},
		{full(), has(11, 1, 2, 1), nil, api.ErrFull}, {full(), api.Report{}, nil, api.ErrFull}, {full(), full().Reports[0], nil, api.ErrFull},
	} {
		after, e := built.Add(x.b, x.r)
		var numbers []int
		for _, r := range after.Reports {
			numbers = append(numbers, r.Number)
		}
		if !slices.Equal(numbers, x.want) || e != x.e || e != api.OK && !isNothing(fmt.Sprint(after)) || e == api.OK && !slices.Contains(after.Reports, x.r) {
			t.Error(i, after, e)
		}
	}
	for _, far := range trial.Far() {
		for _, r := range []api.Report{has(far, 4, 30, 1), has(4, far, 30, 1), has(4, 4, far, 1), has(4, 4, 30, far)} {
			isGood := r == has(4, 4, 30, 1) || r.Machine == 4 && r.Drawing == 30 && r.Letter == 1 && 1 <= far && far <= api.MaxId
			if after, e := built.Add(gaps, r); !isGood && (e != api.ErrReport || !isNothing(fmt.Sprint(after))) || isGood && e != api.OK {
				t.Error(r, after, e)
			}
		}
	}
}

// P8.8, P8.15: in whichever order reports are added, the machines are the same ones; nothing else changes.
func TestAdd(t *testing.T) {
	rnd := rand.New(rand.NewSource(117))
	several := 0
	for range 300 {
		b := someBuilt(rnd)
		if len(b.Machines) == 0 {
			continue
		}
		want := clone(b)
		for _, number := range someNumbers(rnd, rnd.Intn(api.MaxReports+1)) {
			want.Reports = append(want.Reports, someReport(rnd, b, number))
		}
		for _, i := range rnd.Perm(len(want.Reports)) {
			var e api.Errno
			if b, e = built.Add(b, want.Reports[i]); e != api.OK {
				t.Fatal(b, want.Reports[i], e)
			}
		}
		if fmt.Sprint(b) != fmt.Sprint(want) || built.Check(b) != api.OK {
			t.Fatal(b, want)
		}
		if len(want.Reports) > 3 {
			several++
		}
	}
	if several < 100 {
		t.Error("few have several:", several)
	}
}

// P8.6, P8.9: with a note settled as it is known, nothing changes; the other way, if both may be, less is left.
func TestSettledNotes(t *testing.T) {
	rnd := rand.New(rand.NewSource(118))
	known, open := 0, 0
	for range 150 {
		b, truths := someTold(t, rnd)
		left := leftOf(truths, b.Reports)
		l, e := built.Settled(b)
		if len(left) == 0 {
			continue
		}
		if e != api.OK {
			t.Fatal(b, e)
		}
		i := 0
		for _, x := range b.Notes.Notes {
			if x.Signed != api.KnownOpen {
				continue
			}
			for _, signed := range []bool{true, false} {
				settled := b
				settled.Notes, e = note.Settle(b.Notes, x.Number, signed)
				after, f := built.Signed(settled)
				isLeft := l[i] == api.KnownOpen || (l[i] == api.KnownYes) == signed
				if e != api.OK || f != api.OK || isLeft != (len(after) > 0) {
					t.Fatal(b, x, signed, l, after)
				}
			}
			if l[i] == api.KnownOpen {
				open++
			} else {
				known++
			}
			i++
		}
	}
	if open < 50 || known < 20 {
		t.Error("few of a kind:", open, known)
	}
}
