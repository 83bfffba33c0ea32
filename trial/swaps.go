package trial

import (
	"cmp"
	"slices"
	"strconv"
	"strings"

	"blueline/api"
)

// Is returns the issue that a word such as 30B names.
func Is(word string) api.Ref {
	drawing, e := strconv.Atoi(word[:len(word)-1])
	if e != nil {
		panic(e)
	}
	return api.Ref{Drawing: drawing, Letter: int(word[len(word)-1]-'A') + 1}
}

// AreAll returns the issues that words name.
func AreAll(words string) []api.Ref {
	var l []api.Ref
	for _, word := range strings.Fields(words) {
		l = append(l, Is(word))
	}
	return l
}

// IssueText is a word that names an issue.
func IssueText(x api.Ref) string {
	return strconv.Itoa(x.Drawing) + string(rune('A'+x.Letter-1))
}

// IssuesText is the words that name issues.
func IssuesText(l []api.Ref) string {
	var words []string
	for _, x := range l {
		words = append(words, IssueText(x))
	}
	return strings.Join(words, " ")
}

// Rule returns a rule that a piece of one issue may be put in the place of another one.
func Rule(number, day int, from, to string) api.Rule {
	return api.Rule{Number: number, Day: day, From: Is(from), To: Is(to)}
}

// BothWays returns a rule that pieces of two issues may be put in each other's places.
func BothWays(number, day int, from, to string) api.Rule {
	x := Rule(number, day, from, to)
	x.Both = true
	return x
}

// Breaks returns a rule that another one is broken.
func Breaks(number, day, other int) api.Rule {
	return api.Rule{Number: number, Day: day, Breaks: other}
}

// Letting returns a note by which pieces may replace each other in some ways.
func Letting(ways uint8, x api.Note) api.Note {
	x.Ways = ways
	return x
}

// IssuesOf returns all issues of the register, in order.
func IssuesOf(n api.Notes) []api.Ref {
	var l []api.Ref
	for _, x := range n.Register.Issues {
		l = append(l, api.Ref{Drawing: x.Drawing, Letter: x.Letter})
	}
	return l
}

// SomeRules returns any rules that are valid with notes, with many that break each other; their days are from 0 to 4.
func SomeRules(dice Dice, n api.Notes) []api.Rule {
	issues := IssuesOf(n)
	if len(issues) < 2 {
		return nil
	}
	var l []api.Rule
	top := []int{api.MaxRules, 40, api.MaxId}[dice.Intn(3)]
	for _, number := range dice.Perm(top)[:min(dice.Intn(2*api.MaxRules), api.MaxRules)] {
		x := api.Rule{Number: 1 + number, Day: dice.Intn(5)}
		if dice.Intn(5) > 0 {
			two := dice.Perm(len(issues))
			x.From, x.To, x.Both = issues[two[0]], issues[two[1]], dice.Intn(4) == 0
		}
		l = append(l, x)
	}
	slices.SortFunc(l, RuleOrder)
	often := []int{2, 4, 20}[dice.Intn(3)]
	for i := range l {
		x := &l[i]
		if i > 0 && (x.From == api.Ref{} || dice.Intn(often) == 0) {
			x.Breaks = l[dice.Intn(i)].Number
		} else if x.From == (api.Ref{}) {
			x.From, x.To = issues[1], issues[0]
		}
	}
	return l
}

// RuleOrder compares the places of two rules in a list.
func RuleOrder(x, y api.Rule) int {
	return cmp.Or(cmp.Compare(x.Day, y.Day), cmp.Compare(x.Number, y.Number))
}

// RoomyRules returns rules with memory behind their end.
func RoomyRules(l []api.Rule, number int) []api.Rule {
	return Roomy(l, api.Rule{Number: number, Day: number, From: Is("30A"), To: Is("30B"), Both: true, Breaks: number})
}
