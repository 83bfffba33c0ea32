package stock_test

import (
	"math/rand"
	"slices"
	"testing"

	"blueline/api"
	"blueline/note"
	"blueline/stock"
	"blueline/trial"
)

// P4.5: the examples, and truths in which as many pieces are scrapped.
func TestReachExamples(t *testing.T) {
	open := func(number, letter int, useUp bool) api.Note {
		x := trial.As(api.KnownOpen, trial.Gives(number, 100-number, 30, letter, 1, 9))
		x.UseUp = useUp
		return x
	}
	forOne := func(number, machine int) api.Note {
		return trial.As(api.KnownOpen, trial.Gives(number, 100-number, 30, 2, machine, machine))
	}
	given := func(number int) api.Note {
		return trial.As(api.KnownOpen, trial.Gives(number, 1, 30, 2, 2, 3))
	}
	back := func(number, other int) api.Note {
		return trial.As(api.KnownOpen, trial.Cancels(number, 200, other, 3, 3))
	}
	of := func(a, b int, l ...api.Note) api.Stock {
		return api.Stock{Notes: trial.Noted(l...), Of: 10, Drawing: 30, Piles: []int{a, b}, Machines: []int{2, 3}}
	}
	for name, x := range map[string]struct {
		s     api.Stock
		reach api.Span
		wish  []int
	}{
		"the examples": {example(), api.Span{Lo: 2, Hi: 4}, nil},
		"no machines":  {changed(func(s *api.Stock) { s.Machines = nil }), api.Span{Lo: 23, Hi: 23}, nil},
		"no pieces":    {changed(func(s *api.Stock) { s.Piles = []int{0, 0} }), api.Span{}, nil},
		"settled":      {changed(func(s *api.Stock) { s.Notes.Notes[1].Signed = api.KnownYes }), api.Span{Lo: 4, Hi: 4}, nil},
		"not signed":   {changed(func(s *api.Stock) { s.Notes.Notes[1].Signed = api.KnownNo }), api.Span{Lo: 2, Hi: 2}, nil},
		"either one":   {of(0, 9, open(3, 2, false), open(2, 2, false)), api.Span{Lo: 0, Hi: 9}, []int{2}},
		"the later":    {of(5, 9, open(3, 2, false), open(2, 2, true)), api.Span{Lo: 0, Hi: 9}, []int{2}},
		"the first":    {of(5, 9, open(4, 2, true), open(3, 2, true)), api.Span{Lo: 0, Hi: 9}, []int{3}},
		"two of them":  {of(0, 14, forOne(5, 2), forOne(4, 3)), api.Span{Lo: 0, Hi: 14}, []int{4, 5}},
		"the lesser":   {of(0, 7, forOne(5, 2), forOne(4, 3)), api.Span{Lo: 0, Hi: 7}, []int{4}},
		"one for two":  {of(0, 14, open(3, 2, false), forOne(2, 2), forOne(1, 3)), api.Span{Lo: 0, Hi: 14}, []int{3}},
		"two for two":  {of(0, 14, given(1), given(2), trial.Cancels(50, 100, 1, 3, 3), trial.Cancels(60, 100, 2, 3, 3), back(3, 60), back(4, 50)), api.Span{Lo: 0, Hi: 14}, []int{1, 4}},
		"as it is":     {of(14, 0, open(3, 2, false)), api.Span{Lo: 0, Hi: 14}, nil},
	} {
		reach, e := stock.Reach(x.s)
		wish, f := stock.Wish(x.s)
		if reach != x.reach || !slices.Equal(wish, x.wish) || e != api.OK || f != api.OK {
			t.Error(name, reach, e, wish, f)
		}
	}
}

// P4.5, P4.9: in each truth what is scrapped is within what is told, and both ends come about; the wish is the first one of the shortest with the fewest.
func TestReach(t *testing.T) {
	rnd := rand.New(rand.NewSource(56))
	wide, long := 0, 0
	for i := range 800 {
		s := someStock(rnd, 20)
		if i%2 == 0 {
			s = crowded(rnd, 12)
		}
		var wish []int
		span := api.Span{Lo: sumOf(s.Piles) + 1, Hi: -1}
		for _, signed := range truthsOf(s) {
			plan, e := stock.Plan(s, signed)
			if e != api.OK {
				t.Fatal(s, signed, e)
			}
			n := scrapped(s, plan)
			if n < span.Lo || n == span.Lo && (len(signed) < len(wish) || len(signed) == len(wish) && slices.Compare(signed, wish) < 0) {
				wish = signed
			}
			span = api.Span{Lo: min(span.Lo, n), Hi: max(span.Hi, n)}
		}
		reach, e := stock.Reach(s)
		l, f := stock.Wish(s)
		if reach != span || !slices.Equal(l, wish) || e != api.OK || f != api.OK {
			t.Fatal(s, reach, e, l, f, span, wish)
		}
		if span.Lo < span.Hi {
			wide++
		}
		if len(wish) > 0 {
			long++
		}
	}
	if wide < 100 || long < 50 {
		t.Error("few of a kind:", wide, long)
	}
}

// P4.9: a note that is settled makes it no wider, and both ways together make it as wide.
func TestSettled(t *testing.T) {
	rnd := rand.New(rand.NewSource(57))
	narrower := 0
	for range 300 {
		s := crowded(rnd, 12)
		reach, _ := stock.Reach(s)
		for _, number := range trial.OpenOf(s.Notes) {
			var spans []api.Span
			for _, signed := range []bool{true, false} {
				n, e := note.Settle(s.Notes, number, signed)
				settled := s
				settled.Notes = n
				span, f := stock.Reach(settled)
				if e != api.OK || f != api.OK {
					t.Fatal(s, number, signed, e, f)
				}
				if spans = append(spans, span); span != reach {
					narrower++
				}
			}
			if (api.Span{Lo: min(spans[0].Lo, spans[1].Lo), Hi: max(spans[0].Hi, spans[1].Hi)}) != reach {
				t.Fatal(s, number, spans, reach)
			}
		}
	}
	if narrower < 50 {
		t.Error("few are narrower:", narrower)
	}
}

// scrapOf returns how many pieces are scrapped in a truth.
func scrapOf(t *testing.T, s api.Stock, signed []int) int {
	t.Helper()
	n, e := stock.Scrap(s, signed)
	if e != api.OK {
		t.Fatal(s, signed, e)
	}
	return n
}

// P4.10: with a machine more, or if more notes say UseUp, no more is scrapped; with a piece more this one at most.
func TestMore(t *testing.T) {
	rnd := rand.New(rand.NewSource(58))
	var changes [4]int
	for i := range 1000 {
		s := someStock(rnd, 20)
		if i%2 == 0 {
			s = crowded(rnd, 12)
		}
		signed := trial.SomeTruth(rnd, s.Notes)
		before := scrapOf(t, s, signed)
		if m := 1 + rnd.Intn(20); len(s.Machines) < api.MaxBuilds && !slices.Contains(s.Machines, m) {
			more := clone(s)
			more.Machines = append(more.Machines, m)
			slices.Sort(more.Machines)
			if n := scrapOf(t, more, signed); n > before {
				t.Fatal(s, signed, "with the machine", m, n, before)
			} else if n < before {
				changes[0]++
			}
		}
		for l := range s.Piles {
			more := clone(s)
			more.Piles[l]++
			n := scrapOf(t, more, signed)
			if n < before || n > before+1 {
				t.Fatal(s, signed, "with a piece", l, n, before)
			}
			changes[1+n-before]++
		}
		for k, x := range s.Notes.Notes {
			if x.Letter > 1 && !x.UseUp {
				more := clone(s)
				more.Notes.Notes[k].UseUp = true
				if n := scrapOf(t, more, signed); n > before {
					t.Fatal(s, signed, "with a note", k, n, before)
				} else if n < before {
					changes[3]++
				}
			}
		}
	}
	if slices.Min(changes[:]) < 50 {
		t.Error("few of a kind:", changes)
	}
}
