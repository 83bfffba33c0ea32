package swap

import (
	"cmp"
	"slices"

	"blueline/api"
)

// right reports whether all rules are valid.
func (w desk) right() bool {
	sound := 0
rule:
	for i := range len(w.Rules) {
		x, before := w.Rules[i], w.Rules[:i]
		if !isNumbered(x) || !w.isOfIssues(x) || !isUseful(before, x) {
			continue
		}
		for _, y := range before {
			if y.Number == x.Number || cmp.Or(cmp.Compare(y.Day, x.Day), cmp.Compare(y.Number, x.Number)) > 0 {
				continue rule
			}
		}
		sound++
	}
	return sound == len(w.Rules)
}

func isNumbered(x api.Rule) bool {
	return within(api.Span{Lo: 1, Hi: api.MaxId}, x.Number) && areDays(x.Day)
}

// isOfIssues reports whether a rule is of two issues, or of none.
func (w desk) isOfIssues(x api.Rule) bool {
	if x.From == x.To {
		return x.From == api.Ref{} && !x.Both
	}
	return w.has(x.From, x.To)
}

// isUseful reports whether a rule is of issues, or breaks another one, and this one is before it.
func isUseful(before []api.Rule, x api.Rule) bool {
	if x.Breaks == 0 {
		return x.From != api.Ref{}
	}
	return slices.ContainsFunc(before, func(y api.Rule) bool { return y.Number == x.Breaks })
}

// areDays reports whether all numbers are days.
func areDays(numbers ...int) bool {
	return within(api.Span{Lo: 0, Hi: api.MaxDay}, numbers...)
}

// within reports whether all numbers are in a span.
func within(s api.Span, numbers ...int) bool {
	for _, n := range numbers {
		if n < s.Lo || n > s.Hi {
			return false
		}
	}
	return true
}
