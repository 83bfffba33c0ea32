package sheet

import (
	"slices"

	"blueline/api"
)

// outfit is a register at work with letters.
type outfit struct {
	desk
	chosen []api.Issue // of each drawing the issue with its letter
}

// equip returns a register at work with letters, for a drawing that it has.
func equip(r api.Register, letters []int, drawing int) (outfit, api.Errno) {
	w, e := lay(r)
	if e != api.OK {
		return outfit{}, e
	}
	chosen, e := w.choose(letters)
	if e != api.OK {
		return outfit{}, e
	}
	if _, found := w.place(drawing); !found {
		return outfit{}, api.ErrNone
	}
	return outfit{w, chosen}, api.OK
}

// choose returns the issues with letters: ErrLetters unless they are letters of the register.
func (w desk) choose(letters []int) ([]api.Issue, api.Errno) {
	if len(letters) != len(w.drawings) {
		return nil, api.ErrLetters
	}
	var chosen []api.Issue
	for i := range len(letters) {
		x, found := w.find(api.Ref{Drawing: w.drawings[i], Letter: letters[i]})
		if !found {
			return nil, api.ErrLetters
		}
		chosen = append(chosen, x)
	}
	return chosen, api.OK
}

// issue returns the issue of a drawing of the register.
func (w outfit) issue(drawing int) api.Issue {
	at, _ := w.place(drawing)
	return w.chosen[at]
}

// Explode returns the parts of a drawing (P2.3).
func Explode(r api.Register, letters []int, drawing int) ([]api.Item, api.Errno) {
	w, e := equip(r, letters, drawing)
	if e != api.OK {
		return nil, e
	}
	counts := map[int]int{}
	var add func(drawing, count int)
	add = func(drawing, count int) {
		x := w.issue(drawing)
		if x.Kind != api.KindAssembly {
			counts[drawing] += count
		}
		for _, it := range x.Items {
			add(it.Drawing, count*it.Count)
		}
	}
	add(drawing, 1)
	var parts []api.Item
	for _, d := range w.drawings {
		if counts[d] > 0 {
			parts = append(parts, api.Item{Drawing: d, Count: counts[d]})
		}
	}
	return parts, api.OK
}

// Tree returns the tree of a drawing (P2.3).
func Tree(r api.Register, letters []int, drawing int) ([]api.Branch, api.Errno) {
	w, e := equip(r, letters, drawing)
	if e != api.OK {
		return nil, e
	}
	var tree []api.Branch
	var grow func(depth int, at api.Item)
	grow = func(depth int, at api.Item) {
		x := w.issue(at.Drawing)
		tree = append(tree, api.Branch{Depth: depth, Drawing: x.Drawing, Letter: x.Letter, Count: at.Count})
		for _, it := range x.Items {
			grow(depth+1, it)
		}
	}
	grow(0, api.Item{Drawing: drawing, Count: 1})
	if len(tree) > api.MaxBranches {
		return nil, api.ErrMany
	}
	return tree, api.OK
}

// Above returns all drawings that need a drawing (P2.4).
func Above(r api.Register, letters []int, drawing int) ([]int, api.Errno) {
	w, e := equip(r, letters, drawing)
	if e != api.OK {
		return nil, e
	}
	away := w.all()
	delete(away, drawing)
	for range api.MaxDepth { // Each round goes up a chain by a drawing at least.
		for _, x := range w.chosen {
			if slices.ContainsFunc(x.Items, func(it api.Item) bool { return !away[it.Drawing] }) {
				delete(away, x.Drawing)
			}
		}
	}
	var above []int
	for _, d := range w.drawings {
		if !away[d] && d != drawing {
			above = append(above, d)
		}
	}
	return above, api.OK
}
