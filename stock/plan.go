package stock

import (
	"slices"

	"blueline/api"
)

// Places between which pieces are given on: the stock, letters by their numbers, machines by their indices from first on, and the end.
const (
	begin  = 0
	first  = api.MaxLetter + 1
	end    = first + api.MaxBuilds
	places = end + 1
)

// edge leads from a place to another one.
type edge [2]int

// back returns the edge that leads the other way.
func (x edge) back() edge { return edge{x[1], x[0]} }

// net tells how many pieces may still be given on along each edge; those that were may go back along it.
type net map[edge]int

// net returns by which edges pieces may be given to machines.
func (w store) net() net {
	n := net{}
	for l := range len(w.Piles) {
		n[edge{begin, l + 1}] = w.Piles[l]
	}
	for i, c := range w.claims {
		for _, letter := range c.may {
			n[edge{letter, first + i}] = w.Piles[letter-1]
		}
		n[edge{first + i, end}] = c.needs
	}
	return n
}

// plan returns the plan of a stock: edge by edge it gives as many pieces as it can while no more are scrapped.
func (w store) plan() [][]int {
	n := w.net()
	n.move(begin, end, api.MaxLetter*api.MaxPile)
	var plan [][]int
machine:
	for i, c := range w.claims {
		row := make([]int, len(w.Piles))
		plan = append(plan, row)
		for _, letter := range c.may {
			if sum(row) == c.needs {
				continue machine
			}
			row[letter-1] = n.settle(edge{letter, first + i})
		}
	}
	return plan
}

// settle gives as many pieces as it can along an edge, and takes back as many elsewhere; from now on this edge stays as it is. It returns how many these are.
func (n net) settle(x edge) int {
	given, room := n[x.back()], n[x]
	n[x], n[x.back()] = 0, 0
	return given + n.move(x[1], x[0], room)
}

// move gives pieces on from a place until another one has so many more, or cannot get more, and returns how many more it has.
func (n net) move(from, to, most int) int {
	moved := 0
	for {
		count := n.give(from, to, most-moved)
		if count == 0 {
			return moved
		}
		moved += count
	}
}

// give gives some pieces on from a place to another one, by any way, and returns how many.
func (n net) give(from, to, most int) int {
	untried := map[int]bool{}
	for at := range places {
		untried[at] = true
	}
	var on func(at, count int) int
	on = func(at, count int) int {
		if at == to {
			return count
		}
		delete(untried, at)
		for next := range places {
			x := edge{at, next}
			room := min(count, n[x])
			if room == 0 || !untried[next] {
				continue
			}
			if given := on(next, room); given > 0 {
				n[x] -= given
				n[x.back()] += given
				return given
			}
		}
		return 0
	}
	return on(from, most)
}

// rest returns how many pieces a plan leaves over, by their letters, without those of which none are; and whether it is a plan.
func (w store) rest(plan [][]int) (map[int]int, bool) {
	if len(plan) != len(w.claims) {
		return nil, false
	}
	rest := map[int]int{}
	for l := range len(w.Piles) {
		rest[l+1] = w.Piles[l]
	}
	for i, row := range plan {
		if len(row) != len(w.Piles) || !w.claims[i].allows(row) {
			return nil, false
		}
		for l, count := range row {
			rest[l+1] -= count
		}
	}
	for l := range len(w.Piles) {
		if rest[l+1] < 0 {
			return nil, false
		}
		if rest[l+1] == 0 {
			delete(rest, l+1) // No machine may get it any more.
		}
	}
	return rest, true
}

// allows reports whether a machine may get pieces, by letters.
func (c claim) allows(row []int) bool {
	for l, count := range row {
		if count != 0 && !slices.Contains(c.may, l+1) {
			return false
		}
	}
	return arePiles(row) && sum(row) <= c.needs
}

func sum(row []int) int {
	n := 0
	for _, count := range row {
		n += count
	}
	return n
}
