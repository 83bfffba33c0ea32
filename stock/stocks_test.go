package stock_test

import (
	"math/rand"
	"slices"
	"testing"

	"blueline/api"
	"blueline/note"
	"blueline/sheet"
	"blueline/stock"
	"blueline/trial"
)

// example returns the stock of the chapter's examples.
func example() api.Stock {
	n := trial.Noted(trial.UsingUp(trial.Gives(101, 100, 30, 2, 5, 999)), trial.As(api.KnownOpen, trial.Gives(102, 200, 10, 2, 8, 20)))
	return api.Stock{Notes: n, Of: 10, Drawing: 30, Piles: []int{20, 3}, Machines: []int{4, 6, 9}}
}

// changed returns the stock of the examples with a change.
func changed(change func(s *api.Stock)) api.Stock {
	s := example()
	change(&s)
	return s
}

// alone returns a stock of a part with so many letters for itself, which needs one piece; each letter comes by a note of its own, for ten machines, and the letter before it is used up.
func alone(piles []int, machines ...int) api.Stock {
	s := api.Stock{Notes: api.Notes{Register: trial.Lettered(7, len(piles))}, Of: 7, Drawing: 7, Piles: piles, Machines: machines}
	for k := 2; k <= len(piles); k++ {
		s.Notes.Notes = append(s.Notes.Notes, trial.UsingUp(trial.Gives(k, k, 7, k, 10*k-10, 10*k-1)))
	}
	return s
}

// deep returns a stock of which machines need as many pieces as can be.
func deep() api.Stock {
	var r api.Register
	for k := range api.MaxDepth - 1 {
		r.Issues = append(r.Issues, trial.Assembly(1+k, 1, 2+k, api.MaxCount))
	}
	r.Issues = append(r.Issues, trial.Standard(api.MaxDepth, 1), trial.Standard(api.MaxDepth, 2))
	s := api.Stock{Notes: api.Notes{Register: r}, Of: 1, Drawing: api.MaxDepth, Piles: []int{api.MaxPile, api.MaxPile}}
	s.Notes.Notes = []api.Note{trial.UsingUp(trial.Gives(1, 0, api.MaxDepth, 2, 3, api.MaxMachine))}
	for k := range api.MaxBuilds {
		s.Machines = append(s.Machines, 1+k)
	}
	return s
}

// full returns a stock that has as much of everything as it may, with five open notes.
func full() api.Stock {
	s := alone([]int{200, 1, 199, 2, 198, 3, 197, 4})
	for i := range s.Notes.Notes {
		s.Notes.Notes[i].To += 10
	}
	for k := range 5 {
		s.Notes.Notes = append(s.Notes.Notes, trial.As(api.KnownOpen, trial.UsingUp(trial.Gives(20-k, 20+k, 7, 8-k, 15*k+1, 15*k+20))))
	}
	s.Notes.Register.Issues = append([]api.Issue{trial.Assembly(5, 1, 7, 20)}, s.Notes.Register.Issues...)
	s.Of = 5
	for k := range api.MaxBuilds {
		s.Machines = append(s.Machines, 1+8*k)
	}
	return s
}

// valid returns stocks of which something is at its end.
func valid() map[string]api.Stock {
	return map[string]api.Stock{
		"the examples":   example(),
		"no machines":    changed(func(s *api.Stock) { s.Machines = nil }),
		"empty piles":    changed(func(s *api.Stock) { s.Piles = []int{0, 0} }),
		"full piles":     changed(func(s *api.Stock) { s.Piles = []int{api.MaxPile, api.MaxPile} }),
		"12 machines":    changed(func(s *api.Stock) { s.Machines = []int{1, 2, 3, 4, 5, 6, 7, 8, 9, 10, 11, 999} }),
		"machine 1":      changed(func(s *api.Stock) { s.Machines = []int{1} }),
		"machine 999":    changed(func(s *api.Stock) { s.Machines = []int{api.MaxMachine} }),
		"for itself":     changed(func(s *api.Stock) { s.Of = 30 }),
		"for another":    changed(func(s *api.Stock) { s.Of = 50 }),
		"of a standard":  changed(func(s *api.Stock) { s.Drawing, s.Piles = 50, []int{3} }),
		"for 20":         changed(func(s *api.Stock) { s.Of = 20 }),
		"of 40":          changed(func(s *api.Stock) { s.Drawing, s.Piles = 40, []int{7} }),
		"40 for 20":      changed(func(s *api.Stock) { s.Of, s.Drawing, s.Piles = 20, 40, []int{7} }),
		"no notes":       changed(func(s *api.Stock) { s.Notes.Notes = nil }),
		"eight letters":  alone([]int{1, 0, 200, 3, 4, 5, 6, 7}, 1, 9, 10, 50, 60, 70, 79, 80, 81, 999),
		"one letter":     alone([]int{5}, 3, 4),
		"as deep as any": deep(), "full": full(),
	}
}

// wanted is what a machine needs, which letter it has, and which it may get, as the chapter says it.
type wanted struct {
	needs, letter int
	may           []int
}

// wantedOf returns what each machine needs and may get: the ends of its tree, and its last note in force that has the drawing.
func wantedOf(t *testing.T, s api.Stock, signed []int) []wanted {
	t.Helper()
	var l []wanted
	for _, m := range s.Machines {
		letters, e := note.Letters(s.Notes, signed, m)
		tree, f := sheet.Tree(s.Notes.Register, letters, s.Of)
		force, g := note.Force(s.Notes, signed, m)
		if e != api.OK || f != api.OK || g != api.OK {
			t.Fatal(s, signed, m, e, f, g)
		}
		x := wanted{letter: 1, may: []int{1}}
		for _, y := range s.Notes.Notes {
			if slices.Contains(force, y.Number) && y.Drawing == s.Drawing {
				x.letter, x.may = y.Letter, []int{y.Letter}
				if y.UseUp {
					x.may = []int{y.Letter - 1, y.Letter}
				}
			}
		}
		way := make([]int, api.MaxDepth+1)
		for _, b := range tree {
			way[b.Depth] = b.Count
			if b.Depth > 0 {
				way[b.Depth] *= way[b.Depth-1]
			}
			if b.Drawing == s.Drawing {
				x.needs += way[b.Depth]
			}
		}
		l = append(l, x)
	}
	return l
}

// someStock returns any valid stock; of its piles none is higher than some number.
func someStock(rnd *rand.Rand, high int) api.Stock {
	s := api.Stock{Notes: trial.SomeNotes(rnd)}
	drawings := trial.DrawingsOf(s.Notes)
	s.Of = drawings[0]
	if rnd.Intn(4) == 0 {
		s.Of = drawings[rnd.Intn(len(drawings))]
	}
	last := 0
	for last == 0 || last == 1 && rnd.Intn(3) > 0 {
		if x := s.Notes.Register.Issues[rnd.Intn(len(s.Notes.Register.Issues))]; x.Kind != api.KindAssembly {
			s.Drawing = x.Drawing
			last, _ = sheet.Last(s.Notes.Register, s.Drawing)
		}
	}
	for range last {
		s.Piles = append(s.Piles, rnd.Intn(1+rnd.Intn(1+high)))
	}
	useUp := rnd.Intn(3)
	for i, x := range s.Notes.Notes {
		if useUp == 0 && x.Drawing == s.Drawing && x.Letter > 1 {
			s.Notes.Notes[i].UseUp = true
		}
	}
	s.Machines = someMachines(rnd, s.Notes)
	return s
}

// crowded returns a stock with few letters and machines that need several pieces each, most of which may be old ones.
func crowded(rnd *rand.Rand, high int) api.Stock {
	letters := 2 + rnd.Intn(3)
	r := trial.Register(trial.Assembly(5, 1, 7, 1+rnd.Intn(5)), trial.Assembly(5, 2, 7, 1+rnd.Intn(5)))
	r.Issues = append(r.Issues, trial.Lettered(7, letters).Issues...)
	s := api.Stock{Notes: api.Notes{Register: r}, Of: 5, Drawing: 7}
	often := 1 + rnd.Intn(4)
	for k := range 2 + rnd.Intn(6) {
		x := trial.Gives(1+k, k, 7, 1+rnd.Intn(letters), 1+rnd.Intn(6), 7+rnd.Intn(6))
		if rnd.Intn(5) == 0 {
			x.Drawing, x.Letter = 5, 2
		}
		x.UseUp = x.Letter > 1 && rnd.Intn(4) > 0
		if k < api.MaxOpen && rnd.Intn(often) == 0 {
			x.Signed = api.KnownOpen
		}
		if rnd.Intn(2) == 0 {
			x.Number = 100 - k
		}
		s.Notes.Notes = append(s.Notes.Notes, x)
	}
	for range letters {
		s.Piles = append(s.Piles, rnd.Intn(1+high))
	}
	s.Machines = rnd.Perm(12)[:1+rnd.Intn(12)]
	slices.Sort(s.Machines)
	for i := range s.Machines {
		s.Machines[i]++
	}
	return s
}

// someMachines returns some machines, most of them near an end of a note.
func someMachines(rnd *rand.Rand, n api.Notes) []int {
	all := append(trial.MachinesOf(n), 1+rnd.Intn(api.MaxMachine), 1+rnd.Intn(20))
	var l []int
	for _, i := range rnd.Perm(len(all))[:min(len(all), rnd.Intn(api.MaxBuilds+3), api.MaxBuilds)] {
		l = append(l, all[i])
	}
	slices.Sort(l)
	return slices.Compact(l)
}

// few returns a stock of at most three of its machines.
func few(s api.Stock) api.Stock {
	s.Machines = s.Machines[:min(3, len(s.Machines))]
	return s
}

// clone returns a stock in memory of its own.
func clone(s api.Stock) api.Stock {
	s.Notes = trial.CloneNotes(s.Notes)
	s.Piles, s.Machines = slices.Clone(s.Piles), slices.Clone(s.Machines)
	return s
}

// truthsOf returns all truths, as lists of Numbers.
func truthsOf(s api.Stock) [][]int { return trial.TruthsOf(s.Notes) }

func sumOf(l []int) int {
	n := 0
	for _, x := range l {
		n += x
	}
	return n
}

// scrapped returns how many pieces a plan scraps, all of them.
func scrapped(s api.Stock, plan [][]int) int {
	n := sumOf(s.Piles)
	for _, row := range plan {
		n -= sumOf(row)
	}
	return n
}

// isPlan reports whether some lists are a plan, as the chapter says it.
func isPlan(s api.Stock, want []wanted, plan [][]int) bool {
	if len(plan) != len(want) {
		return false
	}
	left := slices.Clone(s.Piles)
	for i, x := range want {
		if len(plan[i]) != len(left) {
			return false
		}
		lacks := x.needs
		for l, count := range plan[i] {
			if count < 0 || count > left[l] || count > lacks || count > 0 && !slices.Contains(x.may, l+1) {
				return false
			}
			left[l] -= count
			lacks -= count
		}
	}
	return true
}

// Stocks that are made for tests are valid.
func TestStocks(t *testing.T) {
	rnd := rand.New(rand.NewSource(50))
	for range 300 {
		for _, s := range []api.Stock{someStock(rnd, 30), crowded(rnd, 30)} {
			if stock.Check(s) != api.OK {
				t.Fatal(s)
			}
		}
	}
}
