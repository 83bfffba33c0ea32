package sheet

import (
	"cmp"
	"iter"
	"slices"

	"blueline/api"
)

// desk is a register at work.
type desk struct {
	api.Register
	drawings []int // in increasing order
	depths   []int // of each drawing
}

// lay returns a register as it is worked on, and Check's error of it.
func lay(r api.Register) (desk, api.Errno) {
	if !within(api.Span{Lo: 1, Hi: api.MaxIssues}, len(r.Issues)) || !right(r.Issues) {
		return desk{}, api.ErrRegister
	}
	w := desk{Register: r, drawings: numbersOf(r.Issues)}
	if len(w.drawings) > api.MaxDrawings || !w.complete() {
		return desk{}, api.ErrRegister
	}
	w.depths = w.chains()
	if slices.Contains(w.depths, 0) {
		return desk{}, api.ErrCircle
	}
	if slices.Max(w.depths) > api.MaxDepth {
		return desk{}, api.ErrRegister
	}
	return w, api.OK
}

// numbersOf returns the drawings of issues that are in order.
func numbersOf(issues []api.Issue) []int {
	var l []int
	for _, x := range issues {
		if x.Letter == 1 {
			l = append(l, x.Drawing)
		}
	}
	return l
}

// place returns the index of a drawing, and whether there is one.
func (w desk) place(drawing int) (int, bool) {
	return slices.BinarySearch(w.drawings, drawing)
}

// issuesOf yields the issues of a drawing, from A on.
func (w desk) issuesOf(drawing int) iter.Seq[api.Issue] {
	return func(yield func(api.Issue) bool) {
		at, _ := slices.BinarySearchFunc(w.Issues, drawing, func(x api.Issue, d int) int { return cmp.Compare(x.Drawing, d) })
		for ; at < len(w.Issues) && w.Issues[at].Drawing == drawing; at++ {
			if !yield(w.Issues[at]) {
				return
			}
		}
	}
}

// find returns the issue with a name, and whether there is one.
func (w desk) find(name api.Ref) (api.Issue, bool) {
	for x := range w.issuesOf(name.Drawing) {
		if nameOf(x) == name {
			return x, true
		}
	}
	return api.Issue{}, false
}

// all returns the set of all drawings.
func (w desk) all() map[int]bool {
	set := map[int]bool{}
	for _, d := range w.drawings {
		set[d] = true
	}
	return set
}

func nameOf(x api.Issue) api.Ref {
	return api.Ref{Drawing: x.Drawing, Letter: x.Letter}
}

// copied returns an issue in memory of its own.
func copied(x api.Issue) api.Issue {
	x.Items = append([]api.Item(nil), x.Items...)
	x.Dims = append([]api.Dim(nil), x.Dims...)
	return x
}
