package sheet

import (
	"slices"

	"blueline/api"
)

// Differ returns how two issues of a drawing differ (P2.5).
func Differ(r api.Register, drawing, from, to int) (changes []api.Change, dims []int, e api.Errno) {
	w, e := lay(r)
	if e != api.OK {
		return nil, nil, e
	}
	x, hasFrom := w.find(api.Ref{Drawing: drawing, Letter: from})
	y, hasTo := w.find(api.Ref{Drawing: drawing, Letter: to})
	if !hasFrom || !hasTo {
		return nil, nil, api.ErrNone
	}
	was, now := w.counts(x), w.counts(y)
	for _, i := range differing(was, now, equal[int]) {
		changes = append(changes, api.Change{Drawing: w.drawings[i], Was: was[i], Now: now[i]})
	}
	return changes, differing(x.Dims, y.Dims, equal[api.Dim]), api.OK
}

// Clash returns the issues that two registers have otherwise (P2.6).
func Clash(a, b api.Register) ([]api.Ref, api.Errno) {
	v, e := lay(a)
	if e != api.OK {
		return nil, e
	}
	w, e := lay(b)
	if e != api.OK {
		return nil, e
	}
	var clash []api.Ref
	for _, d := range v.drawings {
		x, y := slices.Collect(v.issuesOf(d)), slices.Collect(w.issuesOf(d))
		both := min(len(x), len(y))
		for _, i := range differing(x[:both], y[:both], same) {
			clash = append(clash, nameOf(x[i]))
		}
	}
	return clash, api.OK
}

// Merge returns a register with all issues of two (P2.6).
func Merge(a, b api.Register) (api.Register, api.Errno) {
	clash, e := Clash(a, b)
	if e != api.OK {
		return api.Register{}, e
	}
	if len(clash) > 0 {
		return api.Register{}, api.ErrDiffer
	}
	merged := joined(a.Issues, b.Issues)
	if e := Check(merged); e != api.OK {
		return api.Register{}, e
	}
	return merged, api.OK
}

// joined returns all issues of two registers, in order, those of both once. As both have the issues of a drawing from A on, letters never have to be put in order.
func joined(a, b []api.Issue) api.Register {
	var l []api.Issue
	for len(a) > 0 || len(b) > 0 {
		both := len(a) > 0 && len(b) > 0
		switch {
		case both && nameOf(a[0]) == nameOf(b[0]):
			b = b[1:]
		case len(a) == 0 || both && b[0].Drawing < a[0].Drawing:
			l = append(l, copied(b[0]))
			b = b[1:]
		default:
			l = append(l, copied(a[0]))
			a = a[1:]
		}
	}
	return api.Register{Issues: l}
}

// counts returns how often each drawing is an item of an issue.
func (w desk) counts(x api.Issue) []int {
	l := make([]int, len(w.drawings))
	for _, it := range x.Items {
		at, _ := w.place(it.Drawing)
		l[at] = it.Count
	}
	return l
}

// same reports whether two issues are the same, be a list nil or empty.
func same(x, y api.Issue) bool {
	return nameOf(x) == nameOf(y) && x.Kind == y.Kind &&
		len(differing(x.Items, y.Items, equal[api.Item])) == 0 && len(differing(x.Dims, y.Dims, equal[api.Dim])) == 0
}

// differing returns the indices at which two lists are not the same, or that just one of them has.
func differing[T any](a, b []T, same func(x, y T) bool) []int {
	var l []int
	for i := range max(len(a), len(b)) {
		if i >= len(a) || i >= len(b) || !same(a[i], b[i]) {
			l = append(l, i)
		}
	}
	return l
}

func equal[T comparable](x, y T) bool { return x == y }
