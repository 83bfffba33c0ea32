package sheet

import (
	"slices"

	"blueline/api"
	"blueline/size"
)

// demand is something by which an issue is checked, and the one before it in the register.
type demand struct {
	met func(before, x api.Issue) bool
}

func demands() [4]demand {
	return [4]demand{{isNamed}, {isInOrder}, {isMade}, {isMeasured}}
}

// right reports whether all issues are valid, and in order.
func right(issues []api.Issue) bool {
	before, wrong := api.Issue{}, false // The first drawing is in order behind a drawing 0.
issue:
	for _, x := range issues {
		for _, d := range demands() {
			if !d.met(before, x) {
				wrong = true
				break issue
			}
		}
		before = x
	}
	return !wrong
}

func isNamed(_, x api.Issue) bool {
	return within(api.Span{Lo: 1, Hi: api.MaxId}, x.Drawing) && within(api.Span{Lo: 1, Hi: api.MaxLetter}, x.Letter) &&
		within(api.Span{Lo: api.KindAssembly, Hi: api.KindStandard}, int(x.Kind))
}

func isInOrder(before, x api.Issue) bool {
	if x.Drawing == before.Drawing {
		return x.Letter == before.Letter+1 && x.Kind == before.Kind
	}
	return x.Drawing > before.Drawing && x.Letter == 1
}

// isMade reports whether an assembly is made of valid items, and anything else of none.
func isMade(_, x api.Issue) bool {
	if x.Kind != api.KindAssembly {
		return len(x.Items) == 0
	}
	if !within(api.Span{Lo: 1, Hi: api.MaxItems}, len(x.Items)) {
		return false
	}
	last := 0
	for _, it := range x.Items {
		if it.Drawing == x.Drawing || it.Drawing <= last || !within(api.Span{Lo: 1, Hi: api.MaxCount}, it.Count) {
			return false
		}
		last = it.Drawing
	}
	return true
}

// isMeasured reports whether an assembly has no sizes, and anything else valid ones.
func isMeasured(_, x api.Issue) bool {
	if x.Kind == api.KindAssembly {
		return len(x.Dims) == 0
	}
	return len(x.Dims) <= api.MaxSizes && !slices.ContainsFunc(x.Dims, func(d api.Dim) bool { return size.Check(d) != api.OK })
}

// complete reports whether each drawing of an item has an issue.
func (w desk) complete() bool {
	for _, x := range w.Issues {
		for _, it := range x.Items {
			if _, found := w.place(it.Drawing); !found {
				return false
			}
		}
	}
	return true
}

// chains returns how many drawings the longest chain has that begins with each drawing: 0 if it comes into a circle.
func (w desk) chains() []int {
	depths := make([]int, len(w.drawings))
	waiting := w.all()
	for longest := range len(w.drawings) {
		var reached []int // They go when the round is over, or drawings above them would be reached too early.
		for i, d := range w.drawings {
			if waiting[d] && !w.needs(d, waiting) {
				depths[i] = longest + 1
				reached = append(reached, d)
			}
		}
		for _, d := range reached {
			delete(waiting, d)
		}
	}
	return depths
}

// needs reports whether some issue of a drawing has one of some drawings as an item.
func (w desk) needs(drawing int, some map[int]bool) bool {
	for x := range w.issuesOf(drawing) {
		if slices.ContainsFunc(x.Items, func(it api.Item) bool { return some[it.Drawing] }) {
			return true
		}
	}
	return false
}

// within reports whether all numbers are in a span.
func within(s api.Span, numbers ...int) bool {
	for _, n := range numbers {
		if n < s.Lo || n > s.Hi {
			return false
		}
	}
	return true
}
