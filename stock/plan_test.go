package stock_test

import (
	"fmt"
	"math/rand"
	"slices"
	"testing"

	"blueline/api"
	"blueline/stock"
	"blueline/trial"
)

// P4.1: the examples.
func TestNeedsExamples(t *testing.T) {
	for _, x := range []struct {
		s      api.Stock
		signed []int
		want   []int
		may    [][]int
	}{
		{example(), nil, []int{7, 7, 7}, [][]int{{1}, {1, 2}, {1, 2}}},
		{example(), []int{102}, []int{7, 7, 5}, [][]int{{1}, {1, 2}, {1, 2}}},
		{changed(func(s *api.Stock) { s.Notes.Notes[0].UseUp = false }), nil, []int{7, 7, 7}, [][]int{{1}, {2}, {2}}},
		{changed(func(s *api.Stock) { s.Of = 30 }), nil, []int{1, 1, 1}, [][]int{{1}, {1, 2}, {1, 2}}},
		{changed(func(s *api.Stock) { s.Of = 50 }), nil, []int{0, 0, 0}, [][]int{{1}, {1, 2}, {1, 2}}},
		{changed(func(s *api.Stock) { s.Drawing, s.Piles = 40, []int{1} }), []int{102}, []int{0, 0, 2}, [][]int{{1}, {1}, {1}}},
		{changed(func(s *api.Stock) { s.Machines = nil }), nil, nil, nil},
		{alone([]int{0, 0, 0, 0}, 1, 9, 10, 19, 20, 25, 30, 39, 40), nil, []int{1, 1, 1, 1, 1, 1, 1, 1, 1}, [][]int{{1}, {1}, {1, 2}, {1, 2}, {2, 3}, {2, 3}, {3, 4}, {3, 4}, {1}}},
	} {
		l, e := stock.Needs(x.s, x.signed)
		if !slices.Equal(l, x.want) || e != api.OK {
			t.Error(x.s, l, e)
		}
		for i, want := range x.may {
			if l, e := stock.May(x.s, x.signed, i); !slices.Equal(l, want) || e != api.OK {
				t.Error(x.s, i, l, e)
			}
		}
	}
}

// P4.1: a machine needs pieces by its whole tree, however many these are.
func TestNeedsAreDeep(t *testing.T) {
	s := deep()
	needs, e := stock.Needs(s, nil)
	if len(needs) != 12 || slices.ContainsFunc(needs, func(n int) bool { return n != 20*20*20*20*20 }) || e != api.OK {
		t.Error(needs, e)
	}
	for third, want := range map[int]string{20: "[[200 200]] error 0", 15: "[[200 100]] error 0", 10: "[[200 0]] error 0"} {
		s := changed(func(s *api.Stock) { s.Machines, s.Piles = []int{9}, []int{200, 200} })
		s.Notes.Register = trial.Register(trial.Assembly(10, 1, 20, third), trial.Assembly(10, 2, 30, 1), trial.Assembly(20, 1, 30, 20), trial.Part(30, 1), trial.Part(30, 2))
		scrap, e := stock.Scrap(s, nil)
		if text := fmt.Sprint(stock.Plan(s, nil)); text != want || scrap != 400-20*third || e != api.OK {
			t.Error(third, text, scrap, e)
		}
	}
	made, e := stock.Made(s, nil)
	if !slices.Equal(made, []int{2*3200000 - 200, 10*3200000 - 200}) || e != api.OK {
		t.Error(made, e)
	}
}

// P4.2, P4.3: the examples, and plans in which a choice is made.
func TestPlanExamples(t *testing.T) {
	twice := alone([]int{3, 1, 2, 4}, 5, 12, 13, 24, 25, 31, 50)
	for i, x := range []struct {
		s      api.Stock
		signed []int
		scrap  int
		plan   [][]int
		made   []int
		last   []int
		proof  []int
	}{
		{example(), nil, 2, [][]int{{7, 0}, {7, 0}, {6, 1}}, []int{0, 0}, []int{9, 9}, []int{1, 2}},
		{example(), []int{102}, 4, [][]int{{7, 0}, {7, 0}, {5, 0}}, []int{0, 0}, []int{9, 0}, []int{1, 2}},
		// Nothing is on the piles; there are no machines.
		{changed(func(s *api.Stock) { s.Piles = []int{0, 0} }), nil, 0, [][]int{{0, 0}, {0, 0}, {0, 0}}, []int{7, 14}, []int{0, 0}, nil},
		{changed(func(s *api.Stock) { s.Machines = nil }), nil, 23, nil, []int{0, 0}, []int{0, 0}, []int{1, 2}},
		{changed(func(s *api.Stock) { s.Machines, s.Piles = nil, []int{0, 3} }), nil, 3, nil, []int{0, 0}, []int{0, 0}, []int{2}},
		// Nothing is needed.
		{changed(func(s *api.Stock) { s.Of = 50 }), nil, 23, [][]int{{0, 0}, {0, 0}, {0, 0}}, []int{0, 0}, []int{0, 0}, []int{1, 2}},
		// Machine 4 has A, 6 would take all of A, and must not: B would be scrapped.
		{changed(func(s *api.Stock) { s.Machines, s.Piles = []int{4, 6}, []int{10, 9} }), nil, 5, [][]int{{7, 0}, {3, 4}}, []int{0, 0}, []int{6, 6}, []int{1, 2}},
		{changed(func(s *api.Stock) { s.Machines, s.Piles = []int{6, 999}, []int{5, 9} }), nil, 0, [][]int{{5, 2}, {0, 7}}, []int{0, 0}, []int{6, 999}, nil},
		{changed(func(s *api.Stock) { s.Machines, s.Piles = []int{6, 999}, []int{5, 8} }), nil, 0, [][]int{{5, 2}, {0, 6}}, []int{0, 1}, []int{6, 999}, nil},
		// A cannot be used up, and B can: the proof is A alone.
		{changed(func(s *api.Stock) { s.Machines, s.Piles = []int{4}, []int{10, 0} }), nil, 3, [][]int{{7, 0}}, []int{0, 0}, []int{4, 0}, []int{1}},
		{changed(func(s *api.Stock) {
			s.Notes.Notes[0].UseUp, s.Piles = false, []int{8, 14}
		}), nil, 1, [][]int{{7, 0}, {0, 7}, {0, 7}}, []int{0, 0}, []int{4, 9}, []int{1}},
		// B is used up by its own machines, so that A is left: the first list of as many letters, of two with the same surplus.
		{changed(func(s *api.Stock) {
			s.Notes.Notes[0].UseUp, s.Piles, s.Machines = false, []int{8, 8}, []int{4, 6}
		}), nil, 2, [][]int{{7, 0}, {0, 7}}, []int{0, 0}, []int{4, 6}, []int{1, 2}},
		// Machines 5 and 50 have A, 12 and 13 B, 24 and 25 C, 31 D: each needs one piece.
		{twice, nil, 3, [][]int{{1, 0, 0, 0}, {1, 0, 0, 0}, {0, 1, 0, 0}, {0, 0, 1, 0}, {0, 0, 1, 0}, {0, 0, 0, 1}, {1, 0, 0, 0}}, []int{0, 0, 0, 0}, []int{50, 13, 25, 31}, []int{4}},
	} {
		scrap, e := stock.Scrap(x.s, x.signed)
		plan, f := stock.Plan(x.s, x.signed)
		if scrap != x.scrap || fmt.Sprint(plan) != fmt.Sprint(x.plan) || e != api.OK || f != api.OK {
			t.Error(i, scrap, e, plan, f)
		}
		made, e := stock.Made(x.s, x.signed)
		proof, f := stock.Proof(x.s, x.signed)
		if !slices.Equal(made, x.made) || !slices.Equal(proof, x.proof) || e != api.OK || f != api.OK {
			t.Error(i, made, e, proof, f)
		}
		for l, want := range x.last {
			last, e := stock.Last(x.s, x.signed, l+1)
			if last != want || (e == api.OK) != (want > 0) || e != api.OK && e != api.ErrNone {
				t.Error(i, l, last, e)
			}
		}
	}
}

// P4.4: the examples.
func TestLeftExamples(t *testing.T) {
	for i, x := range []struct {
		signed []int
		plan   [][]int
		want   [][2]int
		e      api.Errno
	}{
		{nil, goodPlan(), [][2]int{{6, 1}, {9, 1}}, api.OK},
		{nil, [][]int{{0, 0}, {0, 0}, {0, 0}}, [][2]int{{4, 1}, {6, 1}, {6, 2}, {9, 1}, {9, 2}}, api.OK},
		{nil, [][]int{{7, 0}, {7, 0}, {6, 1}}, nil, api.OK},
		{nil, [][]int{{7, 0}, {7, 0}, {6, 0}}, [][2]int{{9, 2}}, api.OK},
		{nil, [][]int{{6, 0}, {7, 0}, {7, 0}}, nil, api.OK},
		{nil, [][]int{{6, 0}, {7, 0}, {6, 0}}, [][2]int{{4, 1}, {9, 1}, {9, 2}}, api.OK},
		{[]int{102}, [][]int{{7, 0}, {7, 0}, {5, 0}}, nil, api.OK},
		{[]int{102}, [][]int{{6, 0}, {7, 0}, {5, 0}}, [][2]int{{4, 1}}, api.OK},
		{[]int{102}, [][]int{{7, 0}, {7, 0}, {6, 0}}, nil, api.ErrPlan},
		{nil, [][]int{{6, 1}, {7, 0}, {6, 0}}, nil, api.ErrPlan},
		{nil, [][]int{{8, 0}, {0, 0}, {0, 0}}, nil, api.ErrPlan},
		{nil, [][]int{{0, 0}, {6, 2}, {0, 0}}, nil, api.ErrPlan},
		{nil, [][]int{{0, 0}, {0, 3}, {0, 1}}, nil, api.ErrPlan},
		{nil, [][]int{{7, 0}, {7, 0}, {7, 0}}, nil, api.ErrPlan},
		{nil, [][]int{{-1, 0}, {0, 0}, {0, 0}}, nil, api.ErrPlan},
		{nil, [][]int{{0, 0}, {8, -1}, {0, 0}}, nil, api.ErrPlan},
		{nil, [][]int{{0, 0}, {0, 0}}, nil, api.ErrPlan},
		{nil, [][]int{{0, 0}, {0, 0}, {0, 0}, {0, 0}}, nil, api.ErrPlan},
		{nil, [][]int{{0}, {0}, {0}}, nil, api.ErrPlan},
		{nil, [][]int{{0, 0}, {0, 0}, {0, 0, 0}}, nil, api.ErrPlan},
		{nil, [][]int{{0, 0}, {0, 0}, nil}, nil, api.ErrPlan},
		{nil, nil, nil, api.ErrPlan},
		{nil, [][]int{{0, 0, 0}, {0, 0, 0}}, nil, api.ErrPlan},
	} {
		if l, e := stock.Left(example(), x.signed, x.plan); !slices.Equal(l, x.want) || e != x.e {
			t.Error(i, l, e)
		}
	}
	none := changed(func(s *api.Stock) { s.Machines = nil })
	for _, plan := range [][][]int{nil, {}} {
		if l, e := stock.Left(none, nil, plan); len(l) > 0 || e != api.OK {
			t.Error(l, e)
		}
	}
	if l, e := stock.Left(none, nil, [][]int{{0, 0}}); len(l) > 0 || e != api.ErrPlan {
		t.Error(l, e)
	}
}

// search calls a function with all plans, if they are few enough, and reports whether they are.
func search(s api.Stock, want []wanted, found func(plan [][]int)) bool {
	all := 1
	var plan [][]int
	for _, x := range want {
		plan = append(plan, make([]int, len(s.Piles)))
		for _, letter := range x.may {
			if all *= 1 + min(x.needs, s.Piles[letter-1]); all > 20000 {
				return false
			}
		}
	}
	var next func(i, letter int)
	next = func(i, letter int) {
		if i == len(want) {
			if isPlan(s, want, plan) {
				found(plan)
			}
			return
		}
		if letter == len(s.Piles) {
			next(i+1, 0)
			return
		}
		most := 0
		if slices.Contains(want[i].may, letter+1) {
			most = min(want[i].needs, s.Piles[letter])
		}
		for count := range most + 1 {
			plan[i][letter] = count
			next(i, letter+1)
		}
		plan[i][letter] = 0
	}
	next(0, 0)
	return true
}

// best returns the plan of a stock, of all plans, if they are few enough; and whether they are.
func best(s api.Stock, want []wanted) ([][]int, bool) {
	var best [][]int
	few := search(s, want, func(plan [][]int) {
		n := scrapped(s, plan)
		if best == nil || n < scrapped(s, best) || n == scrapped(s, best) && slices.CompareFunc(plan, best, slices.Compare) > 0 {
			best = nil
			for _, row := range plan {
				best = append(best, slices.Clone(row))
			}
		}
	})
	return best, few
}

// P4.2, P4.6, P4.11: of all plans, none scraps fewer pieces, and none that scraps as few gives earlier machines more of earlier letters.
func TestPlanIsBest(t *testing.T) {
	rnd := rand.New(rand.NewSource(52))
	some, both, scraps := 0, 0, 0
	for range 3000 {
		s := someStock(rnd, 6)
		if rnd.Intn(2) == 0 {
			s = few(crowded(rnd, 6))
		}
		signed := truthsOf(s)[rnd.Intn(len(truthsOf(s)))]
		want := wantedOf(t, s, signed)
		plan, all := best(s, want)
		if !all {
			continue
		}
		got, e := stock.Plan(s, signed)
		if fmt.Sprint(got) != fmt.Sprint(plan) || e != api.OK {
			t.Fatal(s, signed, got, e, plan)
		}
		scrap, e := stock.Scrap(s, signed)
		if scrap != scrapped(s, plan) || e != api.OK {
			t.Fatal(s, signed, scrap, e, plan)
		}
		some++
		if scrap > 0 {
			scraps++
		}
		if slices.ContainsFunc(plan, func(row []int) bool { return len(row) > 1 && sumOf(row) > slices.Max(row) }) {
			both++
		}
	}
	if some < 1000 || both < 50 || scraps < 200 {
		t.Error("few of a kind:", some, both, scraps)
	}
}

// surplusOf returns the surplus of a set of letters as the chapter says it: of letter l, if 1 << l is in it.
func surplusOf(piles []int, want []wanted, set int) int {
	n := 0
	for l, count := range piles {
		n += count * (set >> (l + 1) & 1)
	}
	for _, x := range want {
		if slices.ContainsFunc(x.may, func(letter int) bool { return set>>letter&1 == 1 }) {
			n -= x.needs
		}
	}
	return n
}

// planned returns the plan of a stock by surpluses alone: a machine gets so many pieces of a letter that no letters get a surplus above the greatest one.
func planned(s api.Stock, want []wanted) [][]int {
	piles, want := slices.Clone(s.Piles), slices.Clone(want)
	sets := 2 << len(piles)
	greatest := 0
	for set := 0; set < sets; set += 2 {
		greatest = max(greatest, surplusOf(piles, want, set))
	}
	var plan [][]int
	for i := range want {
		row := make([]int, len(piles))
		for len(want[i].may) > 0 {
			letter := want[i].may[0]
			count := min(want[i].needs, piles[letter-1])
			for set := 0; set < sets; set += 2 {
				if set>>letter&1 == 0 && slices.ContainsFunc(want[i].may, func(l int) bool { return set>>l&1 == 1 }) {
					count = min(count, greatest-surplusOf(piles, want, set))
				}
			}
			row[letter-1] = count
			piles[letter-1] -= count
			want[i].needs -= count
			want[i].may = want[i].may[1:]
		}
		plan = append(plan, row)
	}
	return plan
}

// P4.2, P4.3, P4.6, P4.7, P4.8, P4.11: plans of stocks of any size.
func TestPlan(t *testing.T) {
	rnd := rand.New(rand.NewSource(53))
	proofs, made := 0, 0
	stocks := []api.Stock{full(), deep(), example()}
	for range 1500 {
		stocks = append(stocks, someStock(rnd, []int{10, 40, api.MaxPile}[rnd.Intn(3)]), crowded(rnd, 5+rnd.Intn(20)))
	}
	for _, s := range stocks {
		signed := truthsOf(s)[rnd.Intn(len(truthsOf(s)))]
		want := wantedOf(t, s, signed)
		plan, e := stock.Plan(s, signed)
		if fmt.Sprint(plan) != fmt.Sprint(planned(s, want)) || e != api.OK || !isPlan(s, want, plan) {
			t.Fatal(s, signed, plan, e, planned(s, want))
		}
		scrap, e := stock.Scrap(s, signed)
		if scrap != scrapped(s, plan) || e != api.OK {
			t.Fatal(s, signed, scrap, e, plan)
		}
		checkProof(t, s, signed, want, scrap)
		checkMade(t, s, signed, want, plan)
		if l, e := stock.Left(s, signed, plan); len(l) > 0 || e != api.OK {
			t.Fatal(s, signed, plan, l, e)
		}
		if l, _ := stock.Proof(s, signed); len(l) > 1 && len(l) < len(s.Piles) {
			proofs++
		}
		if l, _ := stock.Made(s, signed); sumOf(l) > 0 && scrap > 0 {
			made++
		}
	}
	if proofs < 20 || made < 200 {
		t.Error("few of a kind:", proofs, made)
	}
}

// checkProof checks that the proof has just the greatest surplus, and is the first one of the shortest.
func checkProof(t *testing.T, s api.Stock, signed []int, want []wanted, scrap int) {
	t.Helper()
	var proof []int
	for set := 0; set < 2<<len(s.Piles); set += 2 {
		n := surplusOf(s.Piles, want, set)
		if n > scrap {
			t.Fatal(s, signed, "a surplus is greater:", set, n, scrap)
		}
		var l []int
		for letter := 1; letter <= len(s.Piles); letter++ {
			if set>>letter&1 == 1 {
				l = append(l, letter)
			}
		}
		if n == scrap && scrap > 0 && (proof == nil || len(l) < len(proof) || len(l) == len(proof) && slices.Compare(l, proof) < 0) {
			proof = l
		}
	}
	if l, e := stock.Proof(s, signed); !slices.Equal(l, proof) || e != api.OK {
		t.Fatal(s, signed, l, e, "and not", proof)
	}
}

// checkMade checks how many pieces are made, with their machine's own letter, and which machines get the last ones.
func checkMade(t *testing.T, s api.Stock, signed []int, want []wanted, plan [][]int) {
	t.Helper()
	all := make([]int, len(s.Piles))
	last := make([]int, len(s.Piles))
	needs, given := 0, 0
	for i, x := range want {
		all[x.letter-1] += x.needs - sumOf(plan[i])
		needs += x.needs
		given += sumOf(plan[i])
		for l, count := range plan[i] {
			if count > 0 {
				last[l] = s.Machines[i]
			}
		}
	}
	made, e := stock.Made(s, signed)
	if !slices.Equal(made, all) || e != api.OK || given+sumOf(made) != needs {
		t.Fatal(s, signed, made, e, all, given, needs)
	}
	if scrap, _ := stock.Scrap(s, signed); given+scrap != sumOf(s.Piles) {
		t.Fatal(s, signed, given, scrap)
	}
	for l, machine := range last {
		m, e := stock.Last(s, signed, l+1)
		if m != machine || (e == api.OK) != (machine > 0) || e != api.OK && e != api.ErrNone {
			t.Fatal(s, signed, l, m, e, machine)
		}
	}
}

// P4.1, P4.12: a machine needs as many as its tree has, and may get pieces with its letter, and the one before.
func TestNeedsAndMay(t *testing.T) {
	rnd := rand.New(rand.NewSource(54))
	old, needs := 0, map[int]bool{}
	for range 500 {
		s := someStock(rnd, 9)
		signed := truthsOf(s)[rnd.Intn(len(truthsOf(s)))]
		l, e := stock.Needs(s, signed)
		want := wantedOf(t, s, signed)
		if len(l) != len(want) || e != api.OK {
			t.Fatal(s, signed, l, e)
		}
		for i, x := range want {
			may, e := stock.May(s, signed, i)
			if l[i] != x.needs || !slices.Equal(may, x.may) || e != api.OK {
				t.Fatal(s, signed, i, l, may, e, x)
			}
			if needs[x.needs] = true; len(may) == 2 {
				old++
			}
		}
	}
	if old < 300 || len(needs) < 6 {
		t.Error("few of a kind:", old, needs)
	}
}

// P4.4: any lists, most of them plans or nearly so.
func TestLeft(t *testing.T) {
	rnd := rand.New(rand.NewSource(55))
	plans, left, wrong := 0, 0, 0
	for range 3000 {
		s := someStock(rnd, 20)
		if rnd.Intn(2) == 0 {
			s = crowded(rnd, 12)
		}
		signed := truthsOf(s)[rnd.Intn(len(truthsOf(s)))]
		want := wantedOf(t, s, signed)
		plan := somePlan(rnd, s, want)
		l, e := stock.Left(s, signed, plan)
		if !isPlan(s, want, plan) {
			if wrong++; len(l) > 0 || e != api.ErrPlan {
				t.Fatal(s, signed, plan, l, e)
			}
			continue
		}
		var pairs [][2]int
		for i, x := range want {
			for k, count := range s.Piles {
				for _, row := range plan {
					count -= row[k]
				}
				if count > 0 && sumOf(plan[i]) < x.needs && slices.Contains(x.may, k+1) {
					pairs = append(pairs, [2]int{s.Machines[i], k + 1})
				}
			}
		}
		if !slices.Equal(l, pairs) || e != api.OK {
			t.Fatal(s, signed, plan, l, e, pairs)
		}
		if plans++; len(pairs) > 0 {
			left++
		}
	}
	if plans < 1000 || left < 500 || wrong < 300 {
		t.Error("few of a kind:", plans, left, wrong)
	}
}

// somePlan returns a plan, or, sometimes, one with something changed.
func somePlan(rnd *rand.Rand, s api.Stock, want []wanted) [][]int {
	left := slices.Clone(s.Piles)
	var plan [][]int
	for _, x := range want {
		row := make([]int, len(left))
		for _, letter := range x.may {
			most := min(x.needs-sumOf(row), left[letter-1])
			row[letter-1] = min(most, rnd.Intn(most+2))
			left[letter-1] -= row[letter-1]
		}
		plan = append(plan, row)
	}
	if len(plan) == 0 || rnd.Intn(3) > 0 {
		return plan
	}
	i := rnd.Intn(len(plan))
	switch rnd.Intn(6) {
	case 0:
		plan[i] = plan[i][1:]
	case 1:
		plan[i] = append(plan[i], 0)
	case 2:
		plan = plan[:i]
	case 3:
		plan = append(plan, make([]int, len(left)))
	default:
		plan[i][rnd.Intn(len(left))] += rnd.Intn(4) - 1
	}
	return plan
}
