package recall_test

import (
	"fmt"
	"math/rand"
	"slices"
	"testing"

	"blueline/api"
	"blueline/recall"
	"blueline/trial"
)

// with returns the prints of the examples with changes of some prints, by their indices.
func with(changes map[int]api.Print) api.Prints {
	return changed(func(p *api.Prints) {
		for i, x := range changes {
			p.Prints[i] = x
		}
	})
}

// P7.7: the examples, and calls that bring back no print, or one twice.
func TestCallExamples(t *testing.T) {
	one, three, four := back(300, sent(1, 10, 1, 30, 1)), back(300, sent(3, 10, 2, 30, 1)), back(300, sent(4, 10, 3, 30, 1))
	all := with(map[int]api.Print{0: one, 2: three, 3: four})
	late := with(map[int]api.Print{0: back(400, sent(1, 10, 1, 30, 1)), 2: back(299, sent(3, 10, 2, 30, 1))})
	lateBack := with(map[int]api.Print{0: one, 2: back(299, sent(3, 10, 2, 30, 1)), 3: four})
	for i, x := range []struct {
		p                 api.Prints
		holders, drawings []int
		want              api.Prints
		stale             []int
	}{
		{example(), nil, []int{30}, all, nil}, {example(), []int{1}, nil, with(map[int]api.Print{0: one}), []int{3, 4}},
		{example(), nil, nil, example(), []int{1, 3, 4}}, {example(), []int{2}, nil, with(map[int]api.Print{2: three}), []int{1, 4}}, {example(), []int{3}, nil, with(map[int]api.Print{3: four}), []int{1, 3}},
		{example(), []int{1, 2, 3}, nil, all, nil}, {example(), []int{3, 1, 2, 1, 3}, nil, all, nil}, {example(), []int{3, 1}, nil, with(map[int]api.Print{0: one, 3: four}), []int{3}},
		{example(), nil, []int{10, 20, 40, 50}, example(), []int{1, 3, 4}}, {example(), []int{2}, []int{50, 10, 50}, with(map[int]api.Print{2: three}), []int{1, 4}}, {example(), []int{2, 2}, []int{30, 10, 30}, all, nil},
		{late, nil, []int{30}, lateBack, nil}, {valid()["works on other"], []int{1, 2, 3}, []int{10, 20, 30, 40, 50}, changed(func(p *api.Prints) {
			p.Holders, p.Prints[3] = valid()["works on other"].Holders, four
		}), nil},
	} {
		after, e := recall.Call(x.p, 300, x.holders, x.drawings)
		stale, f := recall.Stale(after, 300)
		if fmt.Sprint(after) != fmt.Sprint(x.want) || !slices.Equal(stale, x.stale) || e != api.OK || f != api.OK {
			t.Error(i, after.Prints, e, stale, f)
		}
	}
	if after, e := recall.Call(example(), 9, []int{1, 2, 3}, []int{10, 30}); fmt.Sprint(after) != fmt.Sprint(example()) || e != api.OK {
		t.Error(after, e)
	}
}

// some returns some numbers of a list, in any order, some perhaps more than once.
func some(rnd *rand.Rand, l []int) []int {
	var n []int
	for range rnd.Intn(len(l) + 1) {
		n = append(n, l[rnd.Intn(len(l))])
	}
	return n
}

// P7.7, P7.14: a call changes nothing but the stale prints that it brings back; these are not out any more.
func TestCall(t *testing.T) {
	rnd := rand.New(rand.NewSource(104))
	came, open, late, stayed := 0, 0, 0, 0
	for i := range 1500 {
		p := crowd(rnd, rnd.Intn(api.MaxPrints+1))
		if i%2 == 0 {
			p = somePrints(rnd)
		}
		day := rnd.Intn(8)
		holders, drawings := some(rnd, idsOf(p)), some(rnd, trial.DrawingsOf(p.Notes))
		stale, want := staleOf(t, p, day), clone(p)
		for i, x := range p.Prints {
			if !slices.Contains(stale, x) {
				continue
			}
			if !slices.Contains(holders, x.Holder) && !slices.Contains(drawings, x.Issue.Drawing) {
				stayed++
				continue
			}
			want.Prints[i].Back, want.Prints[i].Lost = day, 0
			came++
			open += int(x.Lost)
			if x.Back != api.NotBack {
				late++
			}
		}
		after, e := recall.Call(p, day, holders, drawings)
		if fmt.Sprint(after) != fmt.Sprint(want) || e != api.OK || recall.Check(after) != api.OK {
			t.Fatal(p, day, holders, drawings, after, e)
		}
		again, e := recall.Call(after, day, holders, drawings)
		if fmt.Sprint(again) != fmt.Sprint(after) || e != api.OK {
			t.Fatal(after, day, holders, drawings, again, e)
		}
	}
	if min(came, open, late, stayed) < 100 {
		t.Error("few of a kind:", came, open, late, stayed)
	}
}

// P7.8: a print is put in its place by its Number; what is not valid is ErrPrints, and ErrFull comes first.
func TestSendExamples(t *testing.T) {
	gaps := of(1, 9, sent(3, 5, 1, 30, 1), sent(5, 5, 1, 30, 2), sent(9, 5, 1, 10, 1))
	long := full()
	long.Prints = long.Prints[:29]
	for i, x := range []struct {
		p    api.Prints
		x    api.Print
		want []int
		e    api.Errno
	}{
		{gaps, sent(1, 5, 1, 10, 2), []int{1, 3, 5, 9}, api.OK}, {gaps, sent(4, 0, 1, 10, 2), []int{3, 4, 5, 9}, api.OK}, {gaps, perhaps(sent(8, api.MaxDay, 1, 10, 2)), []int{3, 5, 8, 9}, api.OK}, {gaps, back(5, sent(10, 5, 1, 10, 2)), []int{3, 5, 9, 10}, api.OK}, {gaps, lost(api.KnownYes, sent(api.MaxId, 5, 1, 50, 1)), []int{3, 5, 9, 9999}, api.OK},
		{valid()["no prints"], sent(7, 5, 2, 10, 2), []int{7}, api.OK}, {long, sent(30, 5, 1, 7, 3), numbers(full().Prints), api.OK},
		{gaps, sent(3, 5, 1, 30, 1), nil, api.ErrPrints}, {gaps, sent(9, 6, 1, 10, 2), nil, api.ErrPrints}, {gaps, sent(5, 6, 1, 10, 2), nil, api.ErrPrints},
		{gaps, api.Print{}, nil, api.ErrPrints}, {gaps, sent(0, 5, 1, 10, 2), nil, api.ErrPrints}, {gaps, sent(api.MaxId+1, 5, 1, 10, 2), nil, api.ErrPrints}, {gaps, sent(4, -1, 1, 10, 2), nil, api.ErrPrints}, {gaps, sent(4, api.MaxDay+1, 1, 10, 2), nil, api.ErrPrints}, {gaps, sent(4, 5, 2, 10, 2), nil, api.ErrPrints}, {gaps, sent(4, 5, 0, 10, 2), nil, api.ErrPrints}, {gaps, sent(4, 5, 1, 10, 3), nil, api.ErrPrints}, {gaps, sent(4, 5, 1, 35, 1), nil, api.ErrPrints}, {gaps, back(4, sent(4, 5, 1, 10, 2)), nil, api.ErrPrints}, {gaps, back(api.MaxDay+1, sent(4, 5, 1, 10, 2)), nil, api.ErrPrints}, {gaps, perhaps(back(6, sent(4, 5, 1, 10, 2))), nil, api.ErrPrints}, {gaps, lost(3, sent(4, 5, 1, 10, 2)), nil, api.ErrPrints},
		{valid()["none"], sent(1, 5, 1, 10, 2), nil, api.ErrPrints},
		{full(), sent(31, 5, 1, 7, 3), nil, api.ErrFull}, {full(), api.Print{}, nil, api.ErrFull}, {full(), full().Prints[0], nil, api.ErrFull},
	} {
		after, e := recall.Send(x.p, x.x)
		if !slices.Equal(numbers(after.Prints), x.want) || e != x.e || e != api.OK && !isNothing(fmt.Sprint(after)) {
			t.Error(i, after, e)
			continue
		}
		if e == api.OK && !slices.Contains(after.Prints, x.x) {
			t.Error(i, after, e)
		}
	}
	for _, far := range trial.Far() {
		if far < 1 || far > api.MaxId {
			if after, e := recall.Send(gaps, sent(far, 5, 1, 10, 2)); e != api.ErrPrints || !isNothing(fmt.Sprint(after)) {
				t.Error(far, after, e)
			}
		}
	}
}

// P7.8, P7.11: a print that is sent is one more, nothing else; and it makes no other one stale.
func TestSend(t *testing.T) {
	rnd := rand.New(rand.NewSource(105))
	seen := map[api.Errno]int{}
	for range 1500 {
		p := somePrints(rnd)
		if len(p.Holders) == 0 {
			continue
		}
		x := printsOf(rnd, p, 1)[0]
		x.Number = 1 + rnd.Intn(2*len(p.Prints)+1)
		after, e := recall.Send(p, x)
		seen[e]++
		isThere := slices.Contains(numbers(p.Prints), x.Number)
		if full := len(p.Prints) == api.MaxPrints; full != (e == api.ErrFull) || !full && isThere != (e == api.ErrPrints) {
			t.Fatal(p, x, e)
		}
		if e != api.OK {
			continue
		}
		want := clone(p)
		want.Prints = append(want.Prints, x)
		slices.SortFunc(want.Prints, func(x, y api.Print) int { return x.Number - y.Number })
		if fmt.Sprint(after) != fmt.Sprint(want) || recall.Check(after) != api.OK {
			t.Fatal(p, x, after)
		}
		before, f := recall.Stale(p, 5)
		stale, g := recall.Stale(after, 5)
		if stale = slices.DeleteFunc(stale, func(n int) bool { return n == x.Number }); !slices.Equal(stale, before) || f != api.OK || g != api.OK {
			t.Fatal(p, x, before, stale, f, g)
		}
	}
	if seen[api.OK] < 300 || seen[api.ErrPrints] < 100 || seen[api.ErrFull] < 10 {
		t.Error("few of a kind:", seen)
	}
}

// P7.12: if all prints that a holder misses are sent, the holder misses none, has for sure what is needed, and works by nothing less.
func TestSendMissed(t *testing.T) {
	rnd := rand.New(rand.NewSource(106))
	missed := 0
	for range 500 {
		p := somePrints(rnd)
		p.Prints = p.Prints[:min(10, len(p.Prints))]
		for _, h := range p.Holders {
			day := rnd.Intn(8)
			issues, e := recall.Misses(p, day, h.Id)
			if e != api.OK {
				t.Fatal(p, h, day, e)
			}
			if missed += len(issues); len(issues)+len(p.Prints) > api.MaxPrints {
				continue
			}
			after, number := p, 1
			for _, x := range issues {
				for slices.Contains(numbers(after.Prints), number) {
					number++
				}
				if after, e = recall.Send(after, sent(number, day, h.Id, x.Drawing, x.Letter)); e != api.OK {
					t.Fatal(p, x, e)
				}
			}
			checkHas(t, after, day, h)
		}
	}
	if missed < 500 {
		t.Error("few are missed:", missed)
	}
}

// checkHas checks that a holder misses nothing, and has for sure what is needed.
func checkHas(t *testing.T, p api.Prints, day int, h api.Holder) {
	t.Helper()
	if l, e := recall.Misses(p, day, h.Id); len(l) > 0 || e != api.OK {
		t.Fatal(p, day, h, l, e)
	}
	sure, _ := heldBy(p, day, h.Id)
	for _, d := range h.Drawings {
		for _, letter := range needsOf(t, p, h, d) {
			if !slices.ContainsFunc(sure, func(x api.Print) bool { return x.Issue == ref(d, letter) }) {
				t.Fatal(p, day, h, d, letter)
			}
			if l, e := recall.Works(p, day, h.Id, d); len(l) == 0 || l[0] < letter || e != api.OK {
				t.Fatal(p, day, h, d, l, e)
			}
		}
	}
}
