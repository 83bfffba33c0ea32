package recall_test

import (
	"fmt"
	"math/rand"
	"slices"
	"testing"

	"blueline/api"
	"blueline/note"
	"blueline/recall"
	"blueline/trial"
)

// P7.5: the examples, and prints that are not stale though their letter is not needed.
func TestStaleExamples(t *testing.T) {
	l := []api.Print{sent(1, 5, 1, 30, 1), back(9, sent(2, 6, 1, 30, 1)), perhaps(sent(3, 5, 1, 30, 1)), lost(api.KnownYes, sent(4, 5, 1, 30, 1)), sent(5, 5, 1, 30, 2), sent(6, 5, 1, 10, 2), sent(7, 5, 1, 20, 1)}
	other := of(5, 7, l...)
	other.Holders[0].Drawings = []int{20, 50}
	for i, x := range []struct {
		p    api.Prints
		day  int
		want []int
	}{
		{example(), 300, []int{1, 3, 4}}, {example(), 10, []int{1, 3, 4}}, {example(), 9, nil}, {example(), api.MaxDay, []int{1, 3, 4}}, {example(), 204, []int{1, 3, 4}},
		{of(5, 7, l...), 4, nil}, {of(5, 7, l...), 5, []int{1, 3, 6}}, {of(5, 7, l...), 6, []int{1, 2, 3, 6}}, {of(5, 7, l...), 8, []int{1, 2, 3, 6}}, {of(5, 7, l...), 9, []int{1, 3, 6}},
		{of(4, 7, l...), 9, []int{6}}, {of(5, 8, l...), 9, []int{1, 3}}, {of(1, 4, l...), 9, []int{5, 6}}, {of(1, 999, l...), 9, nil}, {of(15, 15, l...), 9, []int{5}},
		{other, 9, nil}, {valid()["no drawing"], 5, nil}, {valid()["5 open"], 300, nil}, {valid()["no prints"], 300, nil}, {valid()["none"], 0, nil}, {valid()["days turned"], 9, []int{1, 7}}, {valid()["days turned"], 8, []int{7}},
	} {
		l, e := recall.Stale(x.p, x.day)
		if !slices.Equal(l, x.want) || e != api.OK {
			t.Error(i, l, e)
		}
	}
}

// P7.5, P7.10: what is stale has a letter that its holder does not need; all others that are out, of drawings on which their holders work, may be needed.
func TestStale(t *testing.T) {
	rnd := rand.New(rand.NewSource(100))
	stale, needed := 0, 0
	for range 800 {
		p := somePrints(rnd)
		day := rnd.Intn(8)
		l, e := recall.Stale(p, day)
		if want := numbers(staleOf(t, p, day)); !slices.Equal(l, want) || e != api.OK {
			t.Fatal(p, day, l, e, want)
		}
		for _, x := range p.Prints {
			h := holderOf(p, x.Holder)
			letters, e := recall.Needs(p, h.Id, x.Issue.Drawing)
			if e != api.OK {
				t.Fatal(p, x, e)
			}
			isStale, isNeeded := slices.Contains(l, x.Number), slices.Contains(letters, x.Issue.Letter)
			isWorked := isOut(x, day) && slices.Contains(h.Drawings, x.Issue.Drawing)
			if isStale && (isNeeded || !isWorked) || isWorked && !isStale && !isNeeded {
				t.Fatal(p, day, x, letters)
			}
			if isStale {
				stale++
			} else if isWorked {
				needed++
			}
		}
	}
	if stale < 500 || needed < 500 {
		t.Error("few of a kind:", stale, needed)
	}
}

// P7.11: with an open note that is settled no fewer prints are stale, whichever way it is.
func TestStaleIfSettled(t *testing.T) {
	rnd := rand.New(rand.NewSource(101))
	more := 0
	for range 500 {
		p := somePrints(rnd)
		before, e := recall.Stale(p, 5)
		if e != api.OK {
			t.Fatal(p, e)
		}
		for _, number := range trial.OpenOf(p.Notes) {
			for _, signed := range []bool{true, false} {
				settled := p
				settled.Notes, e = note.Settle(p.Notes, number, signed)
				after, f := recall.Stale(settled, 5)
				if !areAll(before, after) || e != api.OK || f != api.OK {
					t.Fatal(p, number, signed, before, after, e, f)
				}
				more += len(after) - len(before)
			}
		}
	}
	if more < 50 {
		t.Error("few more are stale:", more)
	}
}

// areAll reports whether all things of a list are in another one.
func areAll[T comparable](l, others []T) bool {
	return !slices.ContainsFunc(l, func(x T) bool { return !slices.Contains(others, x) })
}

// P7.6: the examples, and calls of which there are as many either way.
func TestCallsExamples(t *testing.T) {
	// Only A is needed of 1 to 8.
	of := func(pairs ...int) api.Prints {
		var p api.Prints
		for d := range api.MaxWorks {
			p.Notes.Register.Issues = append(p.Notes.Register.Issues, trial.Lettered(1+d, 2).Issues...)
		}
		for i := range api.MaxHolders {
			p.Holders = append(p.Holders, holder(1+i, 1, 9, 1, 2, 3, 4, 5, 6, 7, 8))
		}
		for pair := range slices.Chunk(pairs, 2) {
			p.Prints = append(p.Prints, sent(1+len(p.Prints), 5, pair[0], pair[1], 2))
		}
		return p
	}
	for i, x := range []struct {
		p                        api.Prints
		day                      int
		holders, drawings, proof []int
	}{
		{example(), 300, nil, []int{30}, []int{1}}, {example(), 9, nil, nil, nil}, {valid()["none"], 5, nil, nil, nil}, {of(), 5, nil, nil, nil},
		{of(4, 7), 5, nil, []int{7}, []int{1}}, {of(4, 7), 4, nil, nil, nil}, {of(4, 7, 4, 7), 5, nil, []int{7}, []int{1}},
		{of(4, 7, 4, 8), 5, []int{4}, nil, []int{1}}, {of(4, 7, 5, 7), 5, nil, []int{7}, []int{1}}, {of(4, 7, 5, 8), 5, nil, []int{7, 8}, []int{1, 2}}, {of(5, 8, 4, 7), 5, nil, []int{7, 8}, []int{1, 2}},
		// A row of three: two calls, none of them to a holder.
		{of(1, 1, 2, 1, 2, 2), 5, nil, []int{1, 2}, []int{1, 3}}, {of(2, 1, 1, 1, 2, 2), 5, nil, []int{1, 2}, []int{2, 3}}, {of(1, 1, 2, 1, 1, 2), 5, nil, []int{1, 2}, []int{2, 3}},
		// Two holders with three drawings each: to call both is less, or to call one of them.
		{of(2, 1, 2, 2, 2, 3, 5, 1, 5, 2, 5, 3), 5, []int{2, 5}, nil, []int{1, 5}}, {of(2, 1, 2, 2, 2, 3, 5, 1), 5, []int{2}, []int{1}, []int{2, 4}}, {of(2, 1, 2, 2, 2, 3, 5, 1, 6, 1), 5, []int{2}, []int{1}, []int{2, 4}},
		// As few calls to fewer holders.
		{of(3, 1, 3, 2, 4, 2, 4, 3, 1, 1, 1, 3), 5, nil, []int{1, 2, 3}, []int{1, 3, 6}}, {of(3, 1, 3, 2, 4, 2, 4, 1), 5, nil, []int{1, 2}, []int{1, 3}},
		{of(5, 1, 5, 2, 5, 3, 2, 4, 2, 5, 2, 6), 5, []int{2, 5}, nil, []int{1, 4}}, {of(6, 1, 6, 2, 1, 3, 2, 3, 3, 3, 4, 4), 5, []int{6}, []int{3, 4}, []int{1, 3, 6}}, {of(6, 8, 6, 7, 5, 8, 5, 6, 4, 8), 5, nil, []int{6, 7, 8}, []int{2, 4, 5}},
		{of(1, 1, 1, 2, 1, 3, 2, 3, 2, 4), 5, []int{1, 2}, nil, []int{1, 4}}, {of(1, 1, 2, 1, 2, 2, 3, 2, 3, 3), 5, nil, []int{1, 2, 3}, []int{1, 3, 5}}, {of(1, 1, 2, 1, 2, 2, 3, 2, 3, 3, 3, 4), 5, []int{3}, []int{1, 2}, []int{1, 3, 5}}, {of(1, 1, 2, 1, 2, 2, 2, 3, 3, 3, 3, 4), 5, []int{2, 3}, []int{1}, []int{1, 3, 5}},
		{of(1, 1, 2, 2, 3, 3, 4, 4, 5, 5, 6, 6), 5, nil, []int{1, 2, 3, 4, 5, 6}, []int{1, 2, 3, 4, 5, 6}}, {of(1, 1, 2, 2, 3, 3, 4, 4, 5, 5, 6, 6, 1, 7), 5, []int{1}, []int{2, 3, 4, 5, 6}, []int{1, 2, 3, 4, 5, 6}},
	} {
		holders, drawings, e := recall.Calls(x.p, x.day)
		proof, f := recall.Proof(x.p, x.day)
		if !slices.Equal(holders, x.holders) || !slices.Equal(drawings, x.drawings) || !slices.Equal(proof, x.proof) || e != api.OK || f != api.OK {
			t.Error(i, holders, drawings, e, proof, f)
		}
	}
}

// plan is calls to holders, and about drawings.
type plan struct{ holders, drawings []int }

// isBefore reports whether a plan is to be told rather than another one: it has fewer calls, or as many to fewer holders, or the first ones of as many.
func (p plan) isBefore(q plan) bool {
	if n, m := len(p.holders)+len(p.drawings), len(q.holders)+len(q.drawings); n != m {
		return n < m
	}
	if len(p.holders) != len(q.holders) {
		return len(p.holders) < len(q.holders)
	}
	return slices.Compare(slices.Concat(p.holders, p.drawings), slices.Concat(q.holders, q.drawings)) < 0
}

// planOf returns the first one of all plans that bring back prints, of any holders and any drawings.
func planOf(prints []api.Print, holders, drawings []int) plan {
	best := plan{holders, drawings}
	for bits := range 1 << (len(holders) + len(drawings)) {
		var p plan
		for i, id := range holders {
			if bits>>i&1 == 1 {
				p.holders = append(p.holders, id)
			}
		}
		for i, d := range drawings {
			if bits>>(len(holders)+i)&1 == 1 {
				p.drawings = append(p.drawings, d)
			}
		}
		isLeft := func(x api.Print) bool {
			return !slices.Contains(p.holders, x.Holder) && !slices.Contains(p.drawings, x.Issue.Drawing)
		}
		if p.isBefore(best) && !slices.ContainsFunc(prints, isLeft) {
			best = p
		}
	}
	return best
}

// apartOf returns the first one of the longest lists of prints no two of which are of the same holder, or of the same drawing.
func apartOf(prints []api.Print) []int {
	if len(prints) == 0 {
		return nil
	}
	x := prints[0]
	with := append([]int{x.Number}, apartOf(slices.DeleteFunc(slices.Clone(prints[1:]), func(y api.Print) bool {
		return y.Holder == x.Holder || y.Issue.Drawing == x.Issue.Drawing
	}))...)
	if without := apartOf(prints[1:]); len(without) > len(with) {
		return without
	}
	return with
}

// idsOf returns the Ids of all holders.
func idsOf(p api.Prints) []int {
	var l []int
	for _, h := range p.Holders {
		l = append(l, h.Id)
	}
	return l
}

// P7.6, P7.9: no other calls are fewer, or as few to fewer holders, or to others before them; and the proof is the first one.
func TestCalls(t *testing.T) {
	rnd := rand.New(rand.NewSource(102))
	var counts [api.MaxHolders + 1]int
	toHolders, both := 0, 0
	for i := range 1000 {
		p := crowd(rnd, rnd.Intn(24))
		if i%4 == 0 {
			p = somePrints(rnd)
		}
		stale := staleOf(t, p, 5)
		want := planOf(stale, idsOf(p), trial.DrawingsOf(p.Notes))
		holders, drawings, e := recall.Calls(p, 5)
		proof, f := recall.Proof(p, 5)
		if !slices.Equal(holders, want.holders) || !slices.Equal(drawings, want.drawings) || e != api.OK {
			t.Fatal(p, holders, drawings, e, want)
		}
		if !slices.Equal(proof, apartOf(stale)) || f != api.OK {
			t.Fatal(p, proof, f, apartOf(stale))
		}
		counts[len(proof)]++
		if len(holders) > 0 {
			toHolders++
		}
		if len(holders) > 0 && len(drawings) > 0 {
			both++
		}
	}
	if slices.Min(counts[:6]) < 10 || toHolders < 100 || both < 100 {
		t.Error("few of a kind:", counts, toHolders, both)
	}
}

// P7.9: with the calls that are told no print is stale; each of the prints that prove them needs a call of its own, and there are as many.
func TestCallsAreProved(t *testing.T) {
	rnd := rand.New(rand.NewSource(103))
	for i := range 1500 {
		p := crowd(rnd, api.MaxPrints)
		if i%2 == 0 {
			p = somePrints(rnd)
		}
		day := rnd.Intn(8)
		holders, drawings, e := recall.Calls(p, day)
		after, f := recall.Call(p, day, holders, drawings)
		if e != api.OK || f != api.OK {
			t.Fatal(p, day, e, f)
		}
		if l, e := recall.Stale(after, day); len(l) > 0 || e != api.OK {
			t.Fatal(p, day, holders, drawings, l, e)
		}
		stale, _ := recall.Stale(p, day)
		proof, e := recall.Proof(p, day)
		if len(proof) != len(holders)+len(drawings) || !slices.IsSorted(proof) || !areAll(proof, stale) || e != api.OK {
			t.Fatal(p, day, holders, drawings, proof, e)
		}
		ends := map[string]bool{}
		for _, x := range p.Prints {
			if slices.Contains(proof, x.Number) {
				ends[fmt.Sprint("holder ", x.Holder)], ends[fmt.Sprint("drawing ", x.Issue.Drawing)] = true, true
			}
		}
		if len(ends) != 2*len(proof) {
			t.Fatal(p, day, proof)
		}
	}
}
