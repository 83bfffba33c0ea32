package recall_test

import (
	"fmt"
	"math/rand"
	"slices"
	"testing"

	"blueline/api"
	"blueline/note"
	"blueline/recall"
	"blueline/trial"
)

// P7.2: the examples, and the days from which on, and up to which, a holder has a print.
func TestHeldExamples(t *testing.T) {
	one := of(1, 9, sent(1, 10, 1, 30, 1), back(20, sent(2, 10, 1, 30, 2)), back(10, sent(3, 10, 1, 10, 1)), perhaps(sent(4, 10, 1, 10, 2)), lost(api.KnownYes, sent(5, 10, 1, 50, 1)))
	for i, x := range []struct {
		p             api.Prints
		day, holder   int
		sure, perhaps []int
	}{
		{example(), 300, 1, []int{1, 2, 6}, nil}, {example(), 300, 2, []int{3}, nil}, {example(), 300, 3, []int{5}, []int{4}},
		{example(), 9, 1, nil, nil}, {example(), 10, 1, []int{1, 7}, nil}, {example(), 120, 1, []int{1, 2, 7}, nil}, {example(), 204, 1, []int{1, 2, 7}, nil}, {example(), 205, 1, []int{1, 2}, nil}, {example(), 210, 1, []int{1, 2, 6}, nil},
		{one, 0, 1, nil, nil}, {one, 9, 1, nil, nil}, {one, 10, 1, []int{1, 2}, []int{4}}, {one, 19, 1, []int{1, 2}, []int{4}}, {one, 20, 1, []int{1}, []int{4}}, {one, api.MaxDay, 1, []int{1}, []int{4}},
		{valid()["ends"], 0, 1, []int{2}, nil}, {valid()["ends"], api.MaxDay, 1, nil, nil}, {valid()["no prints"], 300, 1, nil, nil},
		{valid()["works on other"], 300, 1, []int{1, 2, 6}, nil}, {valid()["days turned"], 8, 1, []int{2, 7}, nil},
	} {
		sure, perhaps, e := recall.Held(x.p, x.day, x.holder)
		if !slices.Equal(sure, x.sure) || !slices.Equal(perhaps, x.perhaps) || e != api.OK {
			t.Error(i, sure, perhaps, e)
		}
	}
}

// P7.2, P7.14: what a holder has is what is out: what came back is not, nor is what was not sent yet, or is lost.
func TestHeld(t *testing.T) {
	rnd := rand.New(rand.NewSource(92))
	some := 0
	for range 2000 {
		p := somePrints(rnd)
		for _, h := range p.Holders {
			for day := range 8 {
				sure, perhaps, e := recall.Held(p, day, h.Id)
				wantSure, wantPerhaps := heldBy(p, day, h.Id)
				if !slices.Equal(sure, numbers(wantSure)) || !slices.Equal(perhaps, numbers(wantPerhaps)) || e != api.OK {
					t.Fatal(p, h, day, sure, perhaps, e)
				}
				if len(sure) > 0 && len(perhaps) > 0 {
					some++
				}
			}
		}
	}
	if some < 1000 {
		t.Error("few have prints of both kinds:", some)
	}
}

// P7.2: the examples, and letters of which the greatest is sure, or is not.
func TestWorksExamples(t *testing.T) {
	h := api.Notes{Register: trial.Lettered(7, 8)}
	of7 := func(l ...api.Print) api.Prints {
		return api.Prints{Notes: h, Holders: []api.Holder{holder(1, 1, 1), holder(2, 1, 1, 7)}, Prints: l}
	}
	a, b, c, d := sent(1, 5, 1, 7, 1), sent(2, 5, 1, 7, 2), sent(3, 5, 1, 7, 3), sent(4, 5, 1, 7, 8)
	for i, x := range []struct {
		p                    api.Prints
		day, holder, drawing int
		want                 []int
	}{
		{example(), 300, 1, 30, []int{2}}, {example(), 300, 3, 30, []int{0, 1}}, {example(), 300, 1, 10, []int{2}}, {example(), 209, 1, 10, []int{0}}, {example(), 204, 1, 10, []int{1}}, {example(), 300, 3, 10, []int{1}},
		{example(), 119, 1, 30, []int{1}}, {example(), 9, 1, 30, []int{0}}, {example(), 300, 2, 10, []int{0}}, {example(), 300, 2, 50, []int{0}},
		{of7(a, b, c, d), 5, 1, 7, []int{8}}, {of7(a, b, c, d), 4, 1, 7, []int{0}}, {of7(a, b, c, d), 5, 2, 7, []int{0}},
		{of7(perhaps(a), b, perhaps(c), perhaps(d)), 5, 1, 7, []int{2, 3, 8}}, {of7(perhaps(a), perhaps(b), c, d), 5, 1, 7, []int{8}}, {of7(perhaps(a), perhaps(b), perhaps(c), perhaps(d)), 5, 1, 7, []int{0, 1, 2, 3, 8}},
		{of7(a, lost(api.KnownYes, b), perhaps(c), back(9, d)), 9, 1, 7, []int{1, 3}}, {of7(a, lost(api.KnownYes, b), perhaps(c), back(9, d)), 8, 1, 7, []int{8}},
		{of7(b, perhaps(sent(5, 5, 1, 7, 2))), 5, 1, 7, []int{2}}, {of7(perhaps(b), sent(5, 5, 1, 7, 2)), 5, 1, 7, []int{2}}, {of7(perhaps(b), perhaps(sent(5, 5, 1, 7, 2))), 5, 1, 7, []int{0, 2}},
		{of7(perhaps(sent(1, 5, 1, 7, 8)), perhaps(sent(2, 5, 1, 7, 4)), sent(3, 5, 1, 7, 3)), 5, 1, 7, []int{3, 4, 8}},
	} {
		l, e := recall.Works(x.p, x.day, x.holder, x.drawing)
		if !slices.Equal(l, x.want) || e != api.OK {
			t.Error(i, l, e)
		}
	}
}

// worksOf returns the letters by which a holder may work on a drawing: the greatest ones, whichever prints are lost of those that perhaps are.
func worksOf(p api.Prints, day, id, drawing int) []int {
	sure, open := heldBy(p, day, id)
	isOther := func(x api.Print) bool { return x.Issue.Drawing != drawing }
	sure, open = slices.DeleteFunc(sure, isOther), slices.DeleteFunc(open, isOther)
	var l []int
	for bits := range 1 << len(open) {
		best := 0
		for _, x := range sure {
			best = max(best, x.Issue.Letter)
		}
		for i, x := range open {
			if bits>>i&1 == 1 {
				best = max(best, x.Issue.Letter)
			}
		}
		l = append(l, best)
	}
	slices.Sort(l)
	return slices.Compact(l)
}

// P7.2: a holder works by the greatest letter, whichever prints are lost.
func TestWorks(t *testing.T) {
	rnd := rand.New(rand.NewSource(93))
	several := 0
	for range 1000 {
		p := somePrints(rnd)
		for _, h := range p.Holders {
			for _, d := range trial.DrawingsOf(p.Notes) {
				day := rnd.Intn(8)
				l, e := recall.Works(p, day, h.Id, d)
				if want := worksOf(p, day, h.Id, d); !slices.Equal(l, want) || e != api.OK {
					t.Fatal(p, day, h, d, l, e, want)
				}
				if several += len(l) - 1; len(l) == 0 {
					t.Fatal(p, day, h, d)
				}
			}
		}
	}
	if several < 500 {
		t.Error("few have several letters:", several)
	}
}

// P7.3: the examples, and machines next to those from which on another letter is needed.
func TestNeedsExamples(t *testing.T) {
	for i, x := range []struct {
		p               api.Prints
		holder, drawing int
		want            []int
	}{
		{example(), 1, 10, []int{1, 2}}, {example(), 1, 30, []int{2}}, {example(), 2, 30, []int{2}}, {example(), 2, 10, nil}, {example(), 3, 10, []int{1}}, {example(), 3, 30, []int{2}}, {example(), 1, 20, nil},
		{of(1, 4), 1, 30, []int{1}}, {of(1, 5), 1, 30, []int{1, 2}}, {of(5, 9), 1, 30, []int{2}}, {of(5, 10), 1, 30, []int{1, 2}}, {of(10, 12), 1, 30, []int{1}}, {of(12, 13), 1, 30, []int{1, 2}}, {of(13, 14), 1, 30, []int{2}}, {of(14, 15), 1, 30, []int{1, 2}}, {of(15, 15), 1, 30, []int{1}}, {of(16, 999), 1, 30, []int{2}}, {of(999, 999), 1, 30, []int{2}}, {of(1, 999), 1, 30, []int{1, 2}},
		{of(7, 7), 1, 10, []int{1}}, {of(7, 8), 1, 10, []int{1, 2}}, {of(8, 8), 1, 10, []int{1, 2}}, {of(20, 20), 1, 10, []int{1, 2}}, {of(21, 21), 1, 10, []int{1}}, {of(1, 999), 1, 20, []int{1}},
		{valid()["no drawing"], 5, 30, nil}, {valid()["5 open"], 3, 30, []int{1, 2}}, {valid()["5 open"], 1, 30, []int{1, 2}},
	} {
		l, e := recall.Needs(x.p, x.holder, x.drawing)
		if !slices.Equal(l, x.want) || e != api.OK {
			t.Error(i, l, e)
		}
	}
}

// P7.3: a holder needs what is possible for the holder's machines.
func TestNeeds(t *testing.T) {
	rnd := rand.New(rand.NewSource(94))
	var counts [api.MaxLetter]int
	for range 400 {
		p := somePrints(rnd)
		for _, h := range p.Holders {
			for _, d := range trial.DrawingsOf(p.Notes) {
				l, e := recall.Needs(p, h.Id, d)
				if want := needsOf(t, p, h, d); !slices.Equal(l, want) || e != api.OK {
					t.Fatal(p, h, d, l, e, want)
				}
				counts[len(l)]++
			}
		}
	}
	if slices.Min(counts[:3]) < 100 {
		t.Error("few of a kind:", counts)
	}
}

// P7.3: a holder needs the letters that each single machine has in each truth, and no other ones.
func TestNeedsOfEachMachine(t *testing.T) {
	rnd := rand.New(rand.NewSource(95))
	for range 60 {
		p := somePrints(rnd)
		if len(p.Holders) == 0 || p.Holders[0].To-p.Holders[0].From > 25 {
			continue
		}
		h, drawings := p.Holders[0], trial.DrawingsOf(p.Notes)
		seen := map[api.Ref]bool{}
		for m := h.From; m <= h.To; m++ {
			for _, signed := range trial.TruthsOf(p.Notes) {
				letters, e := note.Letters(p.Notes, signed, m)
				if e != api.OK {
					t.Fatal(p, signed, m, e)
				}
				for i, d := range drawings {
					seen[ref(d, letters[i])] = true
				}
			}
		}
		for _, x := range p.Notes.Register.Issues {
			l, e := recall.Needs(p, h.Id, x.Drawing)
			want := seen[ref(x.Drawing, x.Letter)] && slices.Contains(h.Drawings, x.Drawing)
			if slices.Contains(l, x.Letter) != want || e != api.OK {
				t.Fatal(p, h, x, l, e)
			}
		}
	}
}

// P7.3: the examples, and prints that are lost, perhaps lost, back, of others, or of no need.
func TestMissesExamples(t *testing.T) {
	for i, x := range []struct {
		p           api.Prints
		day, holder int
		want        string
	}{
		{example(), 300, 1, "[{10 1}]"}, {example(), 300, 2, "[{30 2}]"}, {example(), 300, 3, "[{30 2}]"}, {example(), 209, 1, "[{10 1} {10 2}]"}, {example(), 204, 1, "[{10 2}]"}, {example(), 119, 1, "[{10 2} {30 2}]"}, {example(), 9, 1, "[{10 1} {10 2} {30 2}]"}, {example(), 9, 3, "[{10 1} {30 2}]"},
		{of(1, 4), 9, 1, "[{10 1} {20 1} {30 1} {40 1} {50 1}]"}, {of(8, 10), 9, 1, "[{10 1} {10 2} {20 1} {30 1} {30 2} {40 1} {50 1}]"},
		{of(8, 10, sent(1, 9, 1, 30, 2), sent(2, 9, 1, 50, 1), sent(3, 9, 1, 10, 1)), 9, 1, "[{10 2} {20 1} {30 1} {40 1}]"},
		{of(8, 10, perhaps(sent(1, 9, 1, 30, 2)), lost(api.KnownYes, sent(2, 9, 1, 50, 1)), back(9, sent(3, 9, 1, 10, 1))), 9, 1, "[{10 1} {10 2} {20 1} {30 1} {30 2} {40 1} {50 1}]"},
		{of(8, 10, perhaps(sent(1, 9, 1, 30, 2)), sent(2, 9, 1, 30, 2)), 9, 1, "[{10 1} {10 2} {20 1} {30 1} {40 1} {50 1}]"},
		{of(1, 4, sent(1, 9, 1, 10, 2), sent(2, 9, 1, 30, 2)), 9, 1, "[{10 1} {20 1} {30 1} {40 1} {50 1}]"},
		{valid()["no drawing"], 5, 5, "[]"},
	} {
		l, e := recall.Misses(x.p, x.day, x.holder)
		if fmt.Sprint(l) != x.want || e != api.OK {
			t.Error(i, l, e)
		}
	}
}

// P7.3: a holder misses all that is needed and that the holder does not have for sure.
func TestMisses(t *testing.T) {
	rnd := rand.New(rand.NewSource(96))
	some, had := 0, 0
	for range 400 {
		p := somePrints(rnd)
		for _, h := range p.Holders {
			day := rnd.Intn(8)
			sure, _ := heldBy(p, day, h.Id)
			var want []api.Ref
			for _, x := range p.Notes.Register.Issues {
				issue := ref(x.Drawing, x.Letter)
				if !slices.Contains(needsOf(t, p, h, x.Drawing), x.Letter) {
					continue
				}
				if slices.ContainsFunc(sure, func(y api.Print) bool { return y.Issue == issue }) {
					had++
				} else {
					want = append(want, issue)
				}
			}
			l, e := recall.Misses(p, day, h.Id)
			if !slices.Equal(l, want) || e != api.OK {
				t.Fatal(p, day, h, l, e, want)
			}
			some += len(l)
		}
	}
	if some < 500 || had < 200 {
		t.Error("few of a kind:", some, had)
	}
}

// P7.4: the examples, and letters some of which are some of those that are possible.
func TestWrongExamples(t *testing.T) {
	a, b, tenA, tenB := sent(1, 5, 1, 30, 1), sent(2, 5, 1, 30, 2), sent(3, 5, 1, 10, 1), sent(4, 5, 1, 10, 2)
	for i, x := range []struct {
		p                             api.Prints
		day, holder, drawing, machine int
		want                          uint8
	}{
		{example(), 300, 2, 30, 418, api.KnownYes}, {example(), 300, 1, 10, 9, api.KnownOpen}, {example(), 300, 1, 30, 6, api.KnownNo},
		{example(), 300, 1, 30, 4, api.KnownYes}, {example(), 300, 3, 30, 418, api.KnownYes}, {example(), 300, 3, 30, 4, api.KnownOpen}, {example(), 9, 3, 30, 418, api.KnownYes}, {example(), 300, 3, 10, 418, api.KnownNo}, {example(), 300, 3, 10, 20, api.KnownOpen}, {example(), 300, 2, 10, 20, api.KnownYes},
		{example(), 300, 1, 30, 10, api.KnownYes}, {example(), 300, 1, 30, 13, api.KnownNo}, {example(), 300, 1, 30, 15, api.KnownYes}, {example(), 300, 1, 30, 999, api.KnownNo}, {example(), 300, 1, 30, 1, api.KnownYes},
		{of(1, 1, a), 5, 1, 30, 4, api.KnownNo}, {of(1, 1, a), 5, 1, 30, 5, api.KnownYes}, {of(1, 1, a), 4, 1, 30, 4, api.KnownYes}, {of(1, 1, a, b), 5, 1, 30, 4, api.KnownYes}, {of(1, 1, a, b), 5, 1, 30, 5, api.KnownNo}, {of(1, 1, a, perhaps(b)), 5, 1, 30, 5, api.KnownOpen}, {of(1, 1, a, perhaps(b)), 5, 1, 30, 4, api.KnownOpen}, {of(1, 1, perhaps(b)), 5, 1, 30, 4, api.KnownYes},
		{of(1, 1, tenA), 5, 1, 10, 8, api.KnownOpen}, {of(1, 1, tenA, tenB), 5, 1, 10, 8, api.KnownOpen}, {of(1, 1, tenA, perhaps(tenB)), 5, 1, 10, 8, api.KnownOpen}, {of(1, 1, perhaps(tenA), perhaps(tenB)), 5, 1, 10, 8, api.KnownOpen}, {of(1, 1, perhaps(tenA), perhaps(tenB)), 4, 1, 10, 8, api.KnownYes}, {of(1, 1, tenA), 5, 1, 10, 7, api.KnownNo}, {of(1, 1, tenB), 5, 1, 10, 21, api.KnownYes},
		{valid()["no drawing"], 5, 5, 30, 5, api.KnownYes},
	} {
		known, e := recall.Wrong(x.p, x.day, x.holder, x.drawing, x.machine)
		if known != x.want || e != api.OK {
			t.Error(i, known, e)
		}
	}
}

// P7.4, P7.13: a print is wrong if it differs from what the machine has, in each truth, whichever prints are lost.
func TestWrong(t *testing.T) {
	rnd := rand.New(rand.NewSource(97))
	var counts [3]int
	for range 800 {
		p := somePrints(rnd)
		machines := trial.MachinesOf(p.Notes)
		for _, h := range p.Holders {
			day, m := rnd.Intn(8), machines[rnd.Intn(len(machines))]
			for _, d := range trial.DrawingsOf(p.Notes) {
				wrong, right := 0, 0
				for _, x := range worksOf(p, day, h.Id, d) {
					for _, y := range possible(t, p, d, m) {
						if x == y {
							right++
						} else {
							wrong++
						}
					}
				}
				want := api.KnownOpen
				if wrong == 0 {
					want = api.KnownNo
				} else if right == 0 {
					want = api.KnownYes
				}
				known, e := recall.Wrong(p, day, h.Id, d, m)
				if int(known) != want || e != api.OK {
					t.Fatal(p, day, h, d, m, known, e, want)
				}
				counts[known]++
			}
		}
	}
	if slices.Min(counts[:]) < 200 {
		t.Error("few of a kind:", counts)
	}
}

// P7.13: a holder who works by the one letter that a machine has in all truths does not work by a wrong print; who surely works by another one does.
func TestRightPrint(t *testing.T) {
	rnd := rand.New(rand.NewSource(98))
	var counts [3]int
	for range 400 {
		p := somePrints(rnd)
		machines := trial.MachinesOf(p.Notes)
		m := machines[rnd.Intn(len(machines))]
		sure, e := note.Sure(p.Notes, m)
		if e != api.OK {
			t.Fatal(p, m, e)
		}
		for i, d := range trial.DrawingsOf(p.Notes) {
			for _, h := range p.Holders {
				l, e := recall.Works(p, 5, h.Id, d)
				known, f := recall.Wrong(p, 5, h.Id, d, m)
				isRight := sure[i] != 0 && slices.Equal(l, sure[i:i+1])
				isOther := !slices.ContainsFunc(possible(t, p, d, m), func(letter int) bool { return slices.Contains(l, letter) })
				if (known == api.KnownNo) != isRight || (known == api.KnownYes) != isOther || e != api.OK || f != api.OK {
					t.Fatal(p, d, h, m, l, sure[i], known, e, f)
				}
				counts[known]++
			}
		}
	}
	if slices.Min(counts[:]) < 100 {
		t.Error("few of a kind:", counts)
	}
}
