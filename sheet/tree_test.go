package sheet_test

import (
	"fmt"
	"math/rand"
	"slices"
	"testing"

	"blueline/api"
	"blueline/sheet"
)

// P2.3: the examples, and parts themselves.
func TestExplode(t *testing.T) {
	for _, x := range []struct {
		letters []int
		drawing int
		want    []api.Item
	}{
		{[]int{1, 1, 1, 1, 1}, 10, counted(30, 7, 50, 2)}, {[]int{2, 1, 1, 1, 1}, 10, counted(30, 5, 40, 2, 50, 1)},
		{[]int{1, 1, 2, 1, 1}, 10, counted(30, 7, 50, 2)}, {[]int{2, 1, 2, 1, 1}, 20, counted(30, 3, 50, 1)},
		{[]int{2, 1, 2, 1, 1}, 30, counted(30, 1)}, {[]int{1, 1, 1, 1, 1}, 40, counted(40, 1)}, {[]int{1, 1, 1, 1, 1}, 50, counted(50, 1)},
	} {
		if l, e := sheet.Explode(example(), x.letters, x.drawing); !slices.Equal(l, x.want) || e != api.OK {
			t.Error(x, l, e)
		}
	}
	deep := register(assembly(1, 1, 2, 20), assembly(2, 1, 3, 20), assembly(3, 1, 4, 20), assembly(4, 1, 5, 20), assembly(5, 1, 6, 20, 7, 1), part(6, 1), standard(7, 1))
	if l, e := sheet.Explode(deep, []int{1, 1, 1, 1, 1, 1, 1}, 1); !slices.Equal(l, counted(6, 3200000, 7, 160000)) || e != api.OK {
		t.Error(l, e)
	}
	most := wide()
	n := 80 * 80 * 80 * 80 * 20
	if l, e := sheet.Explode(most, lettersOf(most, firstLetter), 1); !slices.Equal(l, counted(18, n, 19, n, 20, n)) || e != api.OK {
		t.Error(l, e)
	}
}

// P2.3: the example, and what is not multiplied, and in which order.
func TestTree(t *testing.T) {
	for _, x := range []struct {
		letters []int
		drawing int
		want    []api.Branch
	}{
		{[]int{1, 1, 2, 1, 1}, 10, branches(0, 10, 1, 1, 1, 20, 1, 2, 2, 30, 2, 3, 2, 50, 1, 1, 1, 30, 2, 1)},
		{[]int{2, 1, 1, 1, 1}, 10, branches(0, 10, 2, 1, 1, 20, 1, 1, 2, 30, 1, 3, 2, 50, 1, 1, 1, 30, 1, 2, 1, 40, 1, 2)},
		{[]int{1, 1, 2, 1, 1}, 20, branches(0, 20, 1, 1, 1, 30, 2, 3, 1, 50, 1, 1)},
		{[]int{2, 1, 2, 1, 1}, 30, branches(0, 30, 2, 1)}, {[]int{2, 1, 2, 1, 1}, 50, branches(0, 50, 1, 1)},
	} {
		if l, e := sheet.Tree(example(), x.letters, x.drawing); !slices.Equal(l, x.want) || e != api.OK {
			t.Error(x, l, e)
		}
	}
	turned := register(part(1, 1), assembly(2, 1, 1, 5), assembly(3, 1, 1, 7, 2, 6))
	want := branches(0, 3, 1, 1, 1, 1, 1, 7, 1, 2, 1, 6, 2, 1, 1, 5)
	if l, e := sheet.Tree(turned, []int{1, 1, 1}, 3); !slices.Equal(l, want) || e != api.OK {
		t.Error(l, e)
	}
}

// P2.3: 500 branches are as many as may be.
func TestManyBranches(t *testing.T) {
	r := bush()
	letters := lettersOf(r, firstLetter)
	if l, e := sheet.Tree(r, letters, 1); len(l) != api.MaxBranches || e != api.OK {
		t.Error(len(l), e)
	}
	letters[1] = 2
	if l, e := sheet.Tree(r, letters, 1); len(l) != 0 || e != api.ErrMany {
		t.Error(len(l), e)
	}
	if l, e := sheet.Tree(r, letters, 3); len(l) != 201 || e != api.OK {
		t.Error(len(l), e)
	}
	if l, e := sheet.Explode(r, letters, 1); len(l) != 8 || e != api.OK {
		t.Error(l, e)
	}
	if l, e := sheet.Above(r, letters, 20); len(l) != 11 || e != api.OK {
		t.Error(l, e)
	}
}

// wrongLetters returns lists that are no letters of the register of the examples.
func wrongLetters() [][]int {
	l := [][]int{nil, {}, {1}, {1, 1, 1, 1}, {1, 1, 1, 1, 1, 1}, {2, 1, 2, 1, 1, 0}, make([]int, 5), make([]int, 100000), {3, 1, 1, 1, 1}, {1, 2, 1, 1, 1}, {1, 1, 3, 1, 1}, {1, 1, 1, 2, 1}, {1, 1, 1, 1, 2}}
	for i := range 5 {
		for _, n := range append(far(), 3, 8, 9) {
			letters := []int{1, 1, 1, 1, 1}
			letters[i] = n
			l = append(l, letters)
		}
	}
	return l
}

// P2.3, P2.4, R1, R2: ErrLetters is ahead of ErrNone, and ErrNone of ErrMany.
func TestLettersErrors(t *testing.T) {
	none := func(r api.Register, letters []int, drawing int, want api.Errno) {
		t.Helper()
		parts, e := sheet.Explode(r, letters, drawing)
		tree, f := sheet.Tree(r, letters, drawing)
		above, g := sheet.Above(r, letters, drawing)
		if len(parts)+len(tree)+len(above) > 0 || e != want || f != want || g != want {
			t.Error(len(letters), drawing, parts, e, tree, f, above, g, "and not", want)
		}
	}
	for _, letters := range wrongLetters() {
		for _, d := range []int{10, 20, 30, 40, 50, 0, -1, 60} {
			none(example(), letters, d, api.ErrLetters)
		}
	}
	for _, d := range append(far(), 1, 9, 11, 21, 35, 51, 100) {
		none(example(), []int{1, 1, 1, 1, 1}, d, api.ErrNone)
		none(example(), []int{2, 1, 2, 1, 1}, d, api.ErrNone)
	}
	none(bush(), lettersOf(bush(), func(last int) int { return last }), 21, api.ErrNone)
	none(bush(), lettersOf(bush(), func(last int) int { return last + 1 }), 1, api.ErrLetters)
}

// grown returns the tree of an item, as slowly as the chapter tells it.
func grown(r api.Register, letters []int, depth int, at api.Item) []api.Branch {
	x := issueOf(r, letters, at.Drawing)
	l := []api.Branch{{Depth: depth, Drawing: x.Drawing, Letter: x.Letter, Count: at.Count}}
	for _, it := range x.Items {
		l = append(l, grown(r, letters, depth+1, it)...)
	}
	return l
}

// ends adds up the ends of a tree: the counts on the way to each, multiplied.
func ends(r api.Register, tree []api.Branch) []api.Item {
	counts := map[int]int{}
	way := []int{1}
	for _, b := range tree {
		way = append(way[:b.Depth+1], way[b.Depth]*b.Count)
		if r.Issues[slices.IndexFunc(r.Issues, func(x api.Issue) bool { return x.Drawing == b.Drawing })].Kind != api.KindAssembly {
			counts[b.Drawing] += way[b.Depth+1]
		}
	}
	return items(counts)
}

// items returns counts of drawings in increasing order.
func items(counts map[int]int) []api.Item {
	var l []api.Item
	for d, n := range counts {
		l = append(l, api.Item{Drawing: d, Count: n})
	}
	slices.SortFunc(l, func(a, b api.Item) int { return a.Drawing - b.Drawing })
	return l
}

// P2.3, P2.9: a tree is what grows, its ends are the parts, and an assembly's parts are those of its items.
func TestPartsAreEnds(t *testing.T) {
	rnd := rand.New(rand.NewSource(24))
	many := 0
	for range 250 {
		r := someRegister(rnd)
		letters := someLetters(rnd, r)
		for _, d := range drawingsOf(r) {
			want := grown(r, letters, 0, api.Item{Drawing: d, Count: 1})
			tree, e := sheet.Tree(r, letters, d)
			if len(want) > api.MaxBranches {
				many++
				if len(tree) > 0 || e != api.ErrMany {
					t.Fatal(r, letters, d, tree, e)
				}
			} else if !slices.Equal(tree, want) || e != api.OK {
				t.Fatal(r, letters, d, tree, e)
			}
			parts, e := sheet.Explode(r, letters, d)
			if !slices.Equal(parts, ends(r, want)) || e != api.OK {
				t.Fatal(r, letters, d, parts, e)
			}
			sum := map[int]int{}
			for _, it := range issueOf(r, letters, d).Items {
				l, _ := sheet.Explode(r, letters, it.Drawing)
				for _, p := range l {
					sum[p.Drawing] += p.Count * it.Count
				}
			}
			if len(sum) > 0 && !slices.Equal(parts, items(sum)) {
				t.Fatal(r, letters, d, parts, sum)
			}
		}
	}
	if many == 0 {
		t.Error("no tree had too many branches")
	}
}

// P2.10: with another letter of a drawing just the parts of this one, and of those above it, can be others.
func TestAnotherLetter(t *testing.T) {
	rnd := rand.New(rand.NewSource(25))
	others, moved := 0, 0
	for range 250 {
		r := someRegister(rnd)
		letters := someLetters(rnd, r)
		drawings := drawingsOf(r)
		at := rnd.Intn(len(drawings))
		now := slices.Clone(letters)
		now[at] = someLetters(rnd, r)[at]
		above, _ := sheet.Above(r, letters, drawings[at])
		again, _ := sheet.Above(r, now, drawings[at])
		if !slices.Equal(above, again) {
			t.Fatal(r, letters, now, above, again)
		}
		for _, d := range drawings {
			x, e := sheet.Explode(r, letters, d)
			y, f := sheet.Explode(r, now, d)
			if e != api.OK || f != api.OK {
				t.Fatal(r, letters, now, d, e, f)
			}
			if !slices.Equal(x, y) {
				moved++
				if d != drawings[at] && !slices.Contains(above, d) {
					t.Fatal(r, letters, now, d, x, y)
				}
				continue
			}
			others++
		}
	}
	if others == 0 || moved == 0 {
		t.Error("no parts were tried:", others, moved)
	}
}

// P2.4: the examples, and an item of each issue.
func TestUses(t *testing.T) {
	for _, x := range []struct {
		drawing int
		want    []api.Ref
	}{{10, nil}, {20, refs(10, 1, 10, 2)}, {30, refs(10, 1, 10, 2, 20, 1)}, {40, refs(10, 2)}, {50, refs(20, 1)}} {
		if l, e := sheet.Uses(example(), x.drawing); !slices.Equal(l, x.want) || e != api.OK {
			t.Error(x, l, e)
		}
	}
	for _, d := range append(far(), 1, 9, 11, 35, 51, 100) {
		if l, e := sheet.Uses(example(), d); len(l) > 0 || e != api.ErrNone {
			t.Error(d, l, e)
		}
	}
}

// P2.4: the examples, and drawings that need one only with other letters, or by others.
func TestAbove(t *testing.T) {
	for _, x := range []struct {
		letters []int
		drawing int
		want    []int
	}{
		{[]int{1, 1, 1, 1, 1}, 40, nil}, {[]int{2, 1, 1, 1, 1}, 40, []int{10}}, {[]int{1, 1, 1, 1, 1}, 50, []int{10, 20}}, {[]int{1, 1, 2, 1, 1}, 30, []int{10, 20}}, {[]int{2, 1, 1, 1, 1}, 20, []int{10}}, {[]int{2, 1, 1, 1, 1}, 10, nil},
	} {
		if l, e := sheet.Above(example(), x.letters, x.drawing); !slices.Equal(l, x.want) || e != api.OK {
			t.Error(x, l, e)
		}
	}
	turned := register(part(1, 1), assembly(2, 1, 1, 1), assembly(3, 1, 2, 1), assembly(4, 1, 3, 1), assembly(5, 1, 4, 1), assembly(6, 1, 5, 1))
	for d := range 6 {
		want := []int{2, 3, 4, 5, 6}
		if l, e := sheet.Above(turned, []int{1, 1, 1, 1, 1, 1}, d+1); !slices.Equal(l, want[d:]) || e != api.OK {
			t.Error(d+1, l, e)
		}
		want = []int{1, 2, 3, 4, 5}
		if l, e := sheet.Above(row(1, 6), []int{1, 1, 1, 1, 1, 1}, d+1); !slices.Equal(l, want[:d]) || e != api.OK {
			t.Error(d+1, l, e)
		}
	}
	mixed := register(assembly(1, 1, 5, 1), assembly(2, 1, 6, 1), assembly(3, 1, 1, 1, 4, 1), assembly(4, 1, 2, 1), assembly(5, 1, 4, 1), part(6, 1), part(7, 1))
	if l, e := sheet.Above(mixed, lettersOf(mixed, firstLetter), 6); !slices.Equal(l, []int{1, 2, 3, 4, 5}) || e != api.OK {
		t.Error(l, e)
	}
}

// P2.4, P2.11, P2.12: a drawing is used where it is an item; what is above it is used by, with letters, what is above those; and no drawing is above itself.
func TestUsedAndAbove(t *testing.T) {
	rnd := rand.New(rand.NewSource(26))
	for range 250 {
		r := someRegister(rnd)
		letters := someLetters(rnd, r)
		drawings := drawingsOf(r)
		for _, d := range drawings {
			var uses []api.Ref
			above := map[int]bool{}
			for _, x := range r.Issues {
				if needs(x, d) {
					uses = append(uses, api.Ref{Drawing: x.Drawing, Letter: x.Letter})
				}
			}
			for range drawings {
				for _, user := range drawings {
					x := issueOf(r, letters, user)
					above[user] = needs(x, d) || slices.ContainsFunc(x.Items, func(it api.Item) bool { return above[it.Drawing] })
				}
			}
			want := slices.DeleteFunc(slices.Clone(drawings), func(user int) bool { return !above[user] })
			if l, e := sheet.Uses(r, d); !slices.Equal(l, uses) || e != api.OK {
				t.Fatal(r, d, l, e)
			}
			l, e := sheet.Above(r, letters, d)
			if !slices.Equal(l, want) || slices.Contains(l, d) || e != api.OK {
				t.Fatal(r, letters, d, l, e)
			}
			aboveIsUsed(t, r, letters, d, l)
		}
	}
}

// aboveIsUsed checks that what is above a drawing are its users with letters, and what is above them.
func aboveIsUsed(t *testing.T, r api.Register, letters []int, drawing int, above []int) {
	t.Helper()
	set := map[int]bool{}
	uses, _ := sheet.Uses(r, drawing)
	for _, x := range uses {
		if issueOf(r, letters, x.Drawing).Letter != x.Letter {
			continue
		}
		set[x.Drawing] = true
		l, _ := sheet.Above(r, letters, x.Drawing)
		for _, d := range l {
			set[d] = true
		}
	}
	for _, d := range above {
		if !set[d] {
			t.Error(r, letters, drawing, above, "not by uses", d)
		}
	}
	if len(set) != len(above) {
		t.Error(r, letters, drawing, above, set)
	}
}

// P2.14: without what is not below a drawing its parts, and its tree, are the same.
func TestNotBelow(t *testing.T) {
	rnd := rand.New(rand.NewSource(27))
	smaller := 0
	for range 250 {
		r := someRegister(rnd)
		letters := someLetters(rnd, r)
		drawings := drawingsOf(r)
		for _, d := range drawings {
			set := below(r, d)
			some := without(r, func(x api.Issue) bool { return !set[x.Drawing] })
			var less []int
			for i, other := range drawings {
				if set[other] {
					less = append(less, letters[i])
				}
			}
			if len(less) < len(letters) {
				smaller++
			}
			x, e := sheet.Explode(r, letters, d)
			y, f := sheet.Explode(some, less, d)
			if e != api.OK || f != api.OK || !slices.Equal(x, y) {
				t.Fatal(r, letters, d, x, e, y, f)
			}
			tree, e := sheet.Tree(r, letters, d)
			again, f := sheet.Tree(some, less, d)
			if e != f || fmt.Sprint(tree) != fmt.Sprint(again) {
				t.Fatal(r, letters, d, tree, e, again, f)
			}
		}
	}
	if smaller < 100 {
		t.Error("few registers were smaller:", smaller)
	}
}
