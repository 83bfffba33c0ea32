package sheet_test

import (
	"math/rand"
	"slices"

	"blueline/api"
	"blueline/trial"
)

// Most tests here are made of these.
var (
	dim, part, standard         = trial.Dim, trial.Part, trial.Standard
	assembly, counted, register = trial.Assembly, trial.Counted, trial.Register
	example, clone, far         = trial.Example, trial.Clone, trial.Far
)

// refs returns names of issues, each a drawing and a letter.
func refs(numbers ...int) []api.Ref {
	var l []api.Ref
	for c := range slices.Chunk(numbers, 2) {
		l = append(l, api.Ref{Drawing: c[0], Letter: c[1]})
	}
	return l
}

// branches returns branches, each a depth, a drawing, a letter and a count.
func branches(numbers ...int) []api.Branch {
	var l []api.Branch
	for c := range slices.Chunk(numbers, 4) {
		l = append(l, api.Branch{Depth: c[0], Drawing: c[1], Letter: c[2], Count: c[3]})
	}
	return l
}

// changed returns the register of the examples with a change.
func changed(change func(l []api.Issue)) api.Register {
	r := example()
	change(r.Issues)
	return r
}

// without returns a register without the issues of which something is so.
func without(r api.Register, is func(api.Issue) bool) api.Register {
	return api.Register{Issues: slices.DeleteFunc(clone(r).Issues, is)}
}

// row returns assemblies with numbers from first on, each of which needs the next one, and the part at their end: so many drawings.
func row(first, length int) api.Register {
	r := api.Register{}
	for i := range length - 1 {
		r.Issues = append(r.Issues, assembly(first+i, 1, first+i+1, 1))
	}
	r.Issues = append(r.Issues, part(first+length-1, 1))
	return r
}

// ring returns assemblies from 1 on, each of which needs the next one, and the last one the first one.
func ring(length int) api.Register {
	r := row(1, length)
	r.Issues[length-1] = assembly(length, 1, 1, 1)
	return r
}

// parts returns parts with numbers from first on, so many, each with so many letters.
func parts(first, count, letters int) []api.Issue {
	var l []api.Issue
	for i := range count {
		for k := range letters {
			l = append(l, part(first+i, k+1))
		}
	}
	return l
}

// bush returns a register in which the tree of 1 has 500 branches with 2 A, and 501 with 2 B.
func bush() api.Register {
	r := register(
		assembly(1, 1, 2, 1, 3, 1, 4, 1, 5, 1, 6, 1, 9, 2, 13, 1, 14, 3),
		assembly(2, 1, 13, 1, 14, 1, 15, 1), assembly(2, 2, 13, 1, 14, 1, 15, 1, 16, 1))
	for d := 3; d <= 4; d++ { // 201 branches each
		r.Issues = append(r.Issues, assembly(d, 1, 5, 1, 6, 1, 7, 1, 8, 1, 9, 1, 10, 1, 11, 1, 12, 1))
	}
	for d := 5; d <= 8; d++ { // 41
		r.Issues = append(r.Issues, assembly(d, 1, 9, 1, 10, 1, 11, 1, 12, 1, 13, 1, 14, 1, 15, 1, 16, 1))
	}
	for d := 9; d <= 12; d++ { // 9
		r.Issues = append(r.Issues, assembly(d, 1, 13, 1, 14, 1, 15, 1, 16, 1, 17, 1, 18, 1, 19, 1, 20, 20))
	}
	r.Issues = append(r.Issues, parts(13, 8, 1)...)
	return r
}

// wide returns a register of 20 drawings whose counts are as great as can be: 1 needs 2 to 5, each of these 6 to 9, and so on.
func wide() api.Register {
	r := api.Register{}
	for d := 1; d <= 17; d++ {
		x := assembly(d, 1)
		first := (d+2)/4*4 + 2
		for k := first; k < min(first+4, 21); k++ {
			x.Items = append(x.Items, api.Item{Drawing: k, Count: api.MaxCount})
		}
		r.Issues = append(r.Issues, x)
	}
	r.Issues = append(r.Issues, parts(18, 3, 1)...)
	return r
}

// thicket returns assemblies that need all drawings behind them, as many as can be, in either of two issues.
func thicket() api.Register {
	r := api.Register{}
	for d := 1; d <= 19; d++ {
		for letter := 1; letter <= 2; letter++ {
			x := assembly(d, letter)
			for k := d + 1; k <= min(d+api.MaxItems, 20); k++ {
				x.Items = append(x.Items, api.Item{Drawing: k, Count: letter})
			}
			r.Issues = append(r.Issues, x)
		}
	}
	r.Issues = append(r.Issues, part(20, 1))
	return r
}

// lettersOf returns letters: of each drawing the one that a function tells, by its greatest one.
func lettersOf(r api.Register, pick func(last int) int) []int {
	var l []int
	for i, x := range r.Issues {
		if i+1 == len(r.Issues) || r.Issues[i+1].Drawing != x.Drawing {
			l = append(l, pick(x.Letter))
		}
	}
	return l
}

func firstLetter(int) int { return 1 }

func someLetters(rnd *rand.Rand, r api.Register) []int {
	return lettersOf(r, func(last int) int { return 1 + rnd.Intn(last) })
}

// drawingsOf returns the drawings of a register, in increasing order.
func drawingsOf(r api.Register) []int {
	var l []int
	for _, x := range r.Issues {
		if !slices.Contains(l, x.Drawing) {
			l = append(l, x.Drawing)
		}
	}
	return l
}

// issueOf returns the issue of a drawing with letters.
func issueOf(r api.Register, letters []int, drawing int) api.Issue {
	letter := letters[slices.Index(drawingsOf(r), drawing)]
	return r.Issues[slices.IndexFunc(r.Issues, func(x api.Issue) bool { return x.Drawing == drawing && x.Letter == letter })]
}

// needs reports whether an issue has a drawing as an item.
func needs(x api.Issue, drawing int) bool {
	return slices.ContainsFunc(x.Items, func(it api.Item) bool { return it.Drawing == drawing })
}

// below returns all drawings that may be below a drawing, in any of its issues, and it itself.
func below(r api.Register, drawing int) map[int]bool {
	set := map[int]bool{drawing: true}
	for range len(r.Issues) {
		for _, x := range r.Issues {
			for _, it := range x.Items {
				set[it.Drawing] = set[it.Drawing] || set[x.Drawing]
			}
		}
	}
	return set
}

// someDim returns one of few sizes, so that some are the same.
func someDim(rnd *rand.Rand) api.Dim {
	l := []api.Dim{dim(150, 100, 200), dim(150, 120, 200), dim(150, 100, 201), dim(151, 100, 200), dim(0, 0, 0), dim(api.MaxSize, 0, api.MaxSize)}
	return l[rnd.Intn(len(l))]
}

// someIssue returns an issue: of some of the drawings that are ready if there are any, and it is no part.
func someIssue(rnd *rand.Rand, kind uint8, drawing, letter int, ready []int, dense bool) api.Issue {
	x := api.Issue{Drawing: drawing, Letter: letter, Kind: kind}
	if kind != api.KindAssembly {
		for range rnd.Intn(api.MaxSizes + 1) {
			x.Dims = append(x.Dims, someDim(rnd))
		}
		return x
	}
	count := min(len(ready), api.MaxItems)
	if !dense {
		count = 1 + rnd.Intn(count)
	}
	for _, i := range rnd.Perm(len(ready))[:count] {
		x.Items = append(x.Items, api.Item{Drawing: ready[i], Count: 1 + rnd.Intn(1+rnd.Intn(api.MaxCount))})
	}
	slices.SortFunc(x.Items, func(a, b api.Item) int { return a.Drawing - b.Drawing })
	return x
}

// someRegister returns any valid register, small or large, its drawings in any order of who needs whom.
func someRegister(rnd *rand.Rand) api.Register {
	switch rnd.Intn(40) {
	case 0:
		return wide()
	case 1:
		return bush()
	}
	count := 1 + rnd.Intn([]int{4, 12, api.MaxDrawings}[rnd.Intn(3)])
	top := []int{count, 40, api.MaxId}[rnd.Intn(3)]
	dense := rnd.Intn(4) == 0
	var l []api.Issue
	deep := map[int]int{} // how deep the chains of a drawing may be
	for d := range someNumbers(rnd, count, top) {
		var ready []int
		level := 1 + rnd.Intn(api.MaxDepth)
		for other, n := range deep {
			if n < level {
				ready = append(ready, other)
			}
		}
		slices.Sort(ready)
		kind := uint8(api.KindAssembly)
		if len(ready) == 0 || level == 1 {
			level, kind = 1, uint8(api.KindPart+rnd.Intn(2))
		}
		deep[d] = level
		for k := range 1 + rnd.Intn(min(api.MaxLetter, api.MaxIssues/count)) {
			l = append(l, someIssue(rnd, kind, d, k+1, ready, dense))
		}
	}
	slices.SortStableFunc(l, func(a, b api.Issue) int { return a.Drawing - b.Drawing })
	return api.Register{Issues: l}
}

// someNumbers yields so many numbers from 1 to top, no one twice.
func someNumbers(rnd *rand.Rand, count, top int) func(func(int) bool) {
	return func(yield func(int) bool) {
		for _, n := range rnd.Perm(top)[:count] {
			if !yield(n + 1) {
				return
			}
		}
	}
}
