package sheet_test

import (
	"fmt"
	"math"
	"math/rand"
	"slices"
	"testing"

	"blueline/api"
	"blueline/sheet"
)

// valid returns registers of which something is at its end.
func valid() map[string]api.Register {
	return map[string]api.Register{
		"the examples": example(), "one part": register(part(1, 1)), "one standard part": register(standard(api.MaxId, 1)),
		"all letters":   register(parts(7, 1, api.MaxLetter)...),
		"60 issues":     register(parts(1, 20, 3)...),
		"20 drawings":   register(parts(api.MaxId-19, 20, 1)...),
		"6 in a chain":  row(1, api.MaxDepth),
		"500 branches":  bush(),
		"8 items":       register(append([]api.Issue{assembly(1, 1, 2, 20, 3, 1, 4, 1, 5, 1, 6, 1, 7, 1, 8, 1, 9, 20)}, parts(2, 8, 1)...)...),
		"4 sizes":       register(part(1, 1, dim(0, 0, 0), dim(5, 1, 1), dim(0, 0, api.MaxSize), dim(api.MaxSize, api.MaxSize, api.MaxSize))),
		"sizes of each": register(part(1, 1, dim(0, 0, 0)), part(1, 2), part(1, 3, dim(1, 1, 1), dim(0, 0, 0)), standard(2, 1, dim(0, 0, 0)), standard(2, 2, dim(1, 1, 1))),
		"above numbers": register(part(1, 1), assembly(2, 1, 1, 1), assembly(3, 1, 1, 1, 2, 1)),
		"around itself": register(part(1, 1), assembly(2, 1, 1, 1, 3, 1), part(3, 1)),
		"used by two":   register(assembly(1, 1, 3, 1), assembly(2, 1, 3, 1), part(3, 1)),
		"empty lists":   register(api.Issue{Drawing: 1, Letter: 1, Kind: api.KindPart, Items: []api.Item{}, Dims: []api.Dim{}}, api.Issue{Drawing: 2, Letter: 1, Kind: api.KindAssembly, Items: []api.Item{{Drawing: 1, Count: 1}}, Dims: []api.Dim{}}),
		"two chains":    register(append(row(1, 6).Issues, row(7, 6).Issues...)...),
	}
}

// wrongIssues returns registers of which an issue is not valid.
func wrongIssues() map[string]api.Register {
	m := map[string]api.Register{
		"kind 0":         changed(func(l []api.Issue) { l[5].Kind = 0 }),
		"kind 0 of item": changed(func(l []api.Issue) { l[2].Kind = 0 }),
		"kind 4":         changed(func(l []api.Issue) { l[5].Kind = 4 }),
		"kind 255":       changed(func(l []api.Issue) { l[6].Kind = 255 }),
		"kind 4, items":  changed(func(l []api.Issue) { l[2].Kind = 4 }),
		"no items":       changed(func(l []api.Issue) { l[2].Items = nil }),
		"empty items":    changed(func(l []api.Issue) { l[2].Items = []api.Item{} }),
		"no items last":  changed(func(l []api.Issue) { l[1].Items = nil }),
		"assembly dims":  changed(func(l []api.Issue) { l[2].Dims = []api.Dim{{}} }),
		"part of items":  changed(func(l []api.Issue) { l[5].Items = []api.Item{{Drawing: 50, Count: 1}} }),
		"standard items": changed(func(l []api.Issue) { l[6].Items = []api.Item{{Drawing: 40, Count: 1}} }),
		"5 sizes":        changed(func(l []api.Issue) { l[5].Dims = make([]api.Dim, 5) }),
		"5 of standard":  changed(func(l []api.Issue) { l[6].Dims = make([]api.Dim, 5) }),
		"many sizes":     changed(func(l []api.Issue) { l[6].Dims = make([]api.Dim, 100000) }),
		"many items":     changed(func(l []api.Issue) { l[2].Items = make([]api.Item, 100000) }),
		"9 items":        register(append([]api.Issue{assembly(1, 1, 2, 1, 3, 1, 4, 1, 5, 1, 6, 1, 7, 1, 8, 1, 9, 1, 10, 1)}, parts(2, 9, 1)...)...),
		"item twice":     changed(func(l []api.Issue) { l[0].Items[1].Drawing = 20 }),
		"items swapped":  changed(func(l []api.Issue) { l[0].Items[0].Drawing, l[0].Items[1].Drawing = 30, 20 }),
		"item twice on":  changed(func(l []api.Issue) { l[1].Items[2].Drawing = 30 }),
		"swapped later":  changed(func(l []api.Issue) { l[1].Items[1].Drawing, l[1].Items[2].Drawing = 40, 30 }),
		"itself":         changed(func(l []api.Issue) { l[0].Items[0].Drawing = 10 }),
		"itself, last":   changed(func(l []api.Issue) { l[2].Items = []api.Item{{Drawing: 20, Count: 1}} }),
		"itself alone":   register(assembly(1, 1, 1, 1)),
		"no drawing":     register(api.Issue{}),
		"zero":           register(api.Issue{}, api.Issue{}),
	}
	for _, n := range []int{0, -1, 9, 10, math.MinInt, math.MaxInt, 1 << 32, 1<<32 + 1, 257, -255} {
		m[fmt.Sprint("letter ", n)] = register(part(1, n))
	}
	for _, n := range []int{0, -1, 21, 22, math.MinInt, math.MaxInt, 1 << 32, 1<<32 + 1, 257, -255} {
		m[fmt.Sprint("count ", n)] = changed(func(l []api.Issue) { l[0].Items[0].Count = n })
		m[fmt.Sprint("last count ", n)] = changed(func(l []api.Issue) { l[1].Items[2].Count = n })
	}
	for _, n := range far() {
		if n != 257 && n != 266 { // They are numbers of drawings.
			m[fmt.Sprint("drawing ", n)] = register(part(n, 1))
		}
		m[fmt.Sprint("item ", n)] = changed(func(l []api.Issue) { l[2].Items[1].Drawing = n })
		m[fmt.Sprint("first item ", n)] = changed(func(l []api.Issue) { l[2].Items[0].Drawing = n })
	}
	for _, d := range []api.Dim{dim(-1, 0, 0), dim(0, -1, 0), dim(0, 0, -1), dim(0, 1, 0), dim(api.MaxSize+1, 0, 0), dim(0, 0, api.MaxSize+1), dim(0, math.MinInt, math.MaxInt), dim(math.MaxInt, 0, 0)} {
		m[fmt.Sprint("size ", d)] = changed(func(l []api.Issue) { l[5].Dims = []api.Dim{d} })
		m[fmt.Sprint("standard size ", d)] = changed(func(l []api.Issue) { l[6].Dims = []api.Dim{{}, {}, {}, d} })
		m[fmt.Sprint("size of B ", d)] = changed(func(l []api.Issue) { l[4].Dims[0] = d })
	}
	return m
}

// wrongRegisters returns registers that are not valid, though all of their issues are.
func wrongRegisters() map[string]api.Register {
	return map[string]api.Register{
		"none": {}, "empty": {Issues: []api.Issue{}},
		"61 issues":       register(append(parts(1, 19, 3), parts(20, 1, 4)...)...),
		"21 drawings":     register(parts(1, 21, 1)...),
		"100000 issues":   {Issues: make([]api.Issue, 100000)},
		"9 letters":       register(parts(1, 1, api.MaxLetter+1)...),
		"drawings turned": register(part(2, 1), part(1, 1)), "turned, later": register(part(1, 1), part(3, 1), part(2, 1)),
		"twice": register(part(1, 1), part(1, 1)), "twice, later": register(part(1, 1), part(2, 1), part(2, 2), part(2, 2)),
		"apart":        register(part(1, 1), part(2, 1), part(1, 2)),
		"from B on":    register(part(1, 2)),
		"from B later": register(part(1, 1), part(2, 2)), "from C on": register(part(1, 1), part(2, 3), part(2, 4)),
		"B is missing": register(part(1, 1), part(1, 3)), "turned letters": register(part(1, 2), part(1, 1)), "A once more": register(part(1, 1), part(1, 2), part(1, 1)),
		"kinds": register(part(1, 1), standard(1, 2)), "kinds turned": register(standard(1, 1), part(1, 2)), "kinds later": register(part(1, 1), part(1, 2), standard(1, 3)),
		"part, then made": register(part(1, 1), assembly(1, 2, 2, 1), part(2, 1)), "made, then part": register(assembly(1, 1, 2, 1), part(1, 2), part(2, 1)),
		"no such item": register(assembly(1, 1, 2, 1), part(3, 1)), "no such item of B": register(assembly(1, 1, 2, 1), assembly(1, 2, 2, 1, 3, 1), part(2, 1)), "no such last item": register(part(2, 1), assembly(3, 1, 2, 1, 4, 1)),
		"7 in a chain": row(1, 7), "20 in a chain": row(1, 20), "7 of two": register(append(row(1, 6).Issues, row(7, 7).Issues...)...),
		"7 by issues":                   register(assembly(1, 1, 7, 1), assembly(1, 2, 2, 1), assembly(2, 1, 7, 1), assembly(2, 2, 3, 1), assembly(2, 3, 7, 1), assembly(3, 1, 4, 1), assembly(3, 2, 7, 1), assembly(4, 1, 5, 1), assembly(5, 1, 6, 1), assembly(5, 2, 7, 1), assembly(6, 1, 7, 1), part(7, 1)),
		"7 turned":                      register(part(1, 1), assembly(2, 1, 1, 1), assembly(3, 1, 2, 1), assembly(4, 1, 3, 1), assembly(5, 1, 4, 1), assembly(6, 1, 5, 1), assembly(7, 1, 6, 1)),
		"a thicket":                     thicket(),
		"a circle, and a wrong kind":    register(assembly(1, 1, 2, 1), assembly(2, 1, 1, 1), api.Issue{Drawing: 3, Letter: 1, Kind: 4}),
		"a circle, and a wrong count":   register(assembly(1, 1, 2, 1), assembly(2, 1, 1, 21)),
		"a circle, and no such item":    register(assembly(1, 1, 2, 1), assembly(2, 1, 1, 1, 3, 1)),
		"a circle, and itself":          register(assembly(1, 1, 2, 1), assembly(2, 1, 1, 1, 2, 1)),
		"a circle, and no order":        register(assembly(2, 1, 1, 1), assembly(1, 1, 2, 1)),
		"a circle, and two kinds":       register(assembly(1, 1, 2, 1), assembly(2, 1, 1, 1), part(3, 1), standard(3, 2)),
		"a circle, and B missing":       register(assembly(1, 1, 2, 1), assembly(1, 3, 2, 1), assembly(2, 1, 1, 1)),
		"a circle, and a wrong size":    register(assembly(1, 1, 2, 1), assembly(2, 1, 1, 1), part(3, 1, dim(0, 1, 0))),
		"a circle, and 21 drawings":     register(append(ring(2).Issues, parts(3, 19, 1)...)...),
		"a circle, and 61 issues":       register(append(ring(2).Issues, append(parts(3, 17, 3), parts(20, 1, 8)...)...)...),
		"a circle of 21 drawings":       ring(21),
		"a circle of a drawing that is": register(part(1, 1), assembly(2, 1, 2, 1)),
	}
}

// circles returns registers of which just that is wrong, or that a chain is too long.
func circles() map[string]api.Register {
	m := map[string]api.Register{
		"20 needs 10": changed(func(l []api.Issue) { l[2].Items = append([]api.Item{{Drawing: 10, Count: 1}}, l[2].Items...) }),
		"by issues":   register(assembly(1, 1, 3, 1), assembly(1, 2, 2, 1), assembly(2, 1, 1, 1), assembly(2, 2, 3, 1), part(3, 1)),
		"by last":     register(assembly(1, 1, 3, 1), assembly(1, 2, 2, 1), assembly(2, 1, 3, 1), assembly(2, 2, 1, 1), part(3, 1)),
		"by first":    register(assembly(1, 1, 2, 1), assembly(1, 2, 3, 1), assembly(2, 1, 1, 1), assembly(2, 2, 3, 1), part(3, 1)),
		"of three":    register(assembly(1, 1, 3, 1), assembly(1, 2, 2, 1), assembly(2, 1, 4, 1), assembly(2, 2, 3, 1), assembly(3, 1, 4, 1), assembly(3, 2, 1, 1), part(4, 1)),
		"far below":   register(assembly(1, 1, 2, 1), assembly(2, 1, 3, 1), assembly(3, 1, 4, 1), assembly(4, 1, 5, 1), assembly(5, 1, 4, 1, 6, 1), part(6, 1)),
		"beside":      register(part(1, 1), assembly(2, 1, 1, 1), assembly(3, 1, 4, 1), assembly(4, 1, 3, 1)),
		"above":       register(part(1, 1), assembly(2, 1, 1, 1, 3, 1), assembly(3, 1, 1, 1, 2, 1)),
		"two":         register(assembly(1, 1, 2, 1), assembly(2, 1, 1, 1), assembly(3, 1, 4, 1), assembly(4, 1, 3, 1)),
		"and long":    register(append(ring(2).Issues, row(3, 18).Issues...)...),
		"long, then":  register(append(row(1, 18).Issues, assembly(19, 1, 20, 1), assembly(20, 1, 19, 1))...),
	}
	for n := 2; n <= api.MaxDrawings; n++ {
		m[fmt.Sprint("ring of ", n)] = ring(n)
	}
	dense := thicket()
	dense.Issues[len(dense.Issues)-1] = assembly(20, 1, 1, 1)
	m["a thicket"] = dense
	return m
}

// P2.1: what is valid is OK, what is not ErrRegister, and ErrCircle if that is all.
func TestCheck(t *testing.T) {
	for _, x := range []struct {
		of map[string]api.Register
		e  api.Errno
	}{{valid(), api.OK}, {wrongIssues(), api.ErrRegister}, {wrongRegisters(), api.ErrRegister}, {circles(), api.ErrCircle}} {
		for name, r := range x.of {
			if e := sheet.Check(r); e != x.e {
				t.Error(name, e, "and not", x.e)
			}
		}
	}
}

// naive tells what Check has to return, as slowly as the chapter does.
func naive(r api.Register) api.Errno {
	last := map[int]api.Issue{}
	for i, x := range r.Issues {
		good := x.Drawing >= 1 && x.Drawing <= 9999 && x.Letter >= 1 && x.Letter <= 8 && x.Letter == last[x.Drawing].Letter+1
		good = good && (x.Letter == 1 || x.Kind == last[x.Drawing].Kind) && (i == 0 || r.Issues[i-1].Drawing <= x.Drawing)
		switch x.Kind {
		case 1:
			good = good && len(x.Items) >= 1 && len(x.Items) <= 8 && len(x.Dims) == 0
		case 2, 3:
			good = good && len(x.Items) == 0 && len(x.Dims) <= 4
		default:
			good = false
		}
		for k, it := range x.Items {
			has := slices.ContainsFunc(r.Issues, func(y api.Issue) bool { return y.Drawing == it.Drawing })
			good = good && has && it.Drawing != x.Drawing && it.Count >= 1 && it.Count <= 20 && (k == 0 || x.Items[k-1].Drawing < it.Drawing)
		}
		for _, d := range x.Dims {
			good = good && d.Nominal >= 0 && d.Nominal <= 1000000000 && d.Lower >= 0 && d.Lower <= d.Upper && d.Upper <= 1000000000
		}
		if !good {
			return api.ErrRegister
		}
		last[x.Drawing] = x
	}
	if len(r.Issues) < 1 || len(r.Issues) > 60 || len(last) > 20 {
		return api.ErrRegister
	}
	longest := 0
	for d := range last {
		longest = max(longest, deepest(r, d, 30))
	}
	if longest == 30 {
		return api.ErrCircle
	}
	if longest > 6 {
		return api.ErrRegister
	}
	return api.OK
}

// deepest returns how long the longest chain is that begins with a drawing, or most, if there is a longer one.
func deepest(r api.Register, drawing, most int) int {
	at := map[int]bool{drawing: true}
	for n := 1; n < most; n++ {
		next := map[int]bool{}
		for _, x := range r.Issues {
			for _, it := range x.Items {
				if at[x.Drawing] {
					next[it.Drawing] = true
				}
			}
		}
		if len(next) == 0 {
			return n
		}
		at = next
	}
	return most
}

// spoil changes something of a register, so that it may not be valid any more.
func spoil(rnd *rand.Rand, r api.Register) {
	x := &r.Issues[rnd.Intn(len(r.Issues))]
	other := r.Issues[rnd.Intn(len(r.Issues))]
	near := func(n *int) { *n += rnd.Intn(5) - 2 }
	switch rnd.Intn(20) {
	case 0:
		near(&x.Drawing)
	case 1:
		near(&x.Letter)
	case 2:
		x.Kind = uint8(rnd.Intn(5))
	case 3:
		x.Dims = append(x.Dims, someDim(rnd))
	case 4:
		if len(x.Dims) > 0 {
			x.Dims[0].Lower += rnd.Intn(200) - 100
		}
	case 5:
		x.Items = append(x.Items, api.Item{Drawing: other.Drawing, Count: 1 + rnd.Intn(25)})
	default: // Circles and chains come of this.
		if len(x.Items) > 0 {
			it := &x.Items[rnd.Intn(len(x.Items))]
			if it.Drawing = other.Drawing; rnd.Intn(20) == 0 {
				near(&it.Count)
			}
			slices.SortFunc(x.Items, func(a, b api.Item) int { return a.Drawing - b.Drawing })
		}
	}
}

// P2.1: any register, and one in which something was changed, is what the chapter tells.
func TestCheckIsNaive(t *testing.T) {
	rnd := rand.New(rand.NewSource(21))
	seen := map[api.Errno]int{}
	for range 6000 {
		r := someRegister(rnd)
		for range rnd.Intn(4) {
			spoil(rnd, r)
		}
		e := sheet.Check(r)
		if want := naive(r); e != want {
			t.Fatal(r, e, want)
		}
		seen[e]++
	}
	if seen[api.OK] < 100 || seen[api.ErrRegister] < 100 || seen[api.ErrCircle] < 100 {
		t.Error("few of a kind:", seen)
	}
}

// errorsOf returns the errors of all functions but Check, with a register, some letters and numbers; with an error all else is nothing.
func errorsOf(t *testing.T, r api.Register, letters []int, numbers [3]int) map[string]api.Errno {
	t.Helper()
	m := map[string]api.Errno{}
	put := func(name string, results string, e api.Errno) {
		if m[name] = e; e != api.OK && results != "[]" && results != "0" && results != "{0 0 0 [] []}" && results != "{[]}" && results != "[] []" {
			t.Error(name, results, "with", e)
		}
	}
	good, d := example(), numbers[0]
	drawings, e := sheet.Drawings(r)
	put("Drawings", fmt.Sprint(drawings), e)
	last, e := sheet.Last(r, d)
	put("Last", fmt.Sprint(last), e)
	at, e := sheet.At(r, api.Ref{Drawing: d, Letter: numbers[1]})
	put("At", fmt.Sprint(at), e)
	depth, e := sheet.Depth(r, d)
	put("Depth", fmt.Sprint(depth), e)
	parts, e := sheet.Explode(r, letters, d)
	put("Explode", fmt.Sprint(parts), e)
	tree, e := sheet.Tree(r, letters, d)
	put("Tree", fmt.Sprint(tree), e)
	uses, e := sheet.Uses(r, d)
	put("Uses", fmt.Sprint(uses), e)
	above, e := sheet.Above(r, letters, d)
	put("Above", fmt.Sprint(above), e)
	changes, dims, e := sheet.Differ(r, d, numbers[1], numbers[2])
	put("Differ", fmt.Sprint(changes, dims), e)
	clash, e := sheet.Clash(r, good)
	put("Clash", fmt.Sprint(clash), e)
	clash, e = sheet.Clash(good, r)
	put("Clash, second", fmt.Sprint(clash), e)
	merged, e := sheet.Merge(r, good)
	put("Merge", fmt.Sprint(merged), e)
	merged, e = sheet.Merge(good, r)
	put("Merge, second", fmt.Sprint(merged), e)
	return m
}

// P2.1, R1, R2: all functions return Check's error first, whatever else is wrong, and nothing with it.
func TestInvalidFirst(t *testing.T) {
	for _, of := range []map[string]api.Register{wrongIssues(), wrongRegisters(), circles()} {
		for name, r := range of {
			want := sheet.Check(r)
			for _, letters := range [][]int{nil, {1}, {1, 1}, {0}, {1, 1, 1, 1, 1}, make([]int, 100)} {
				for _, numbers := range [][3]int{{1, 1, 1}, {10, 1, 2}, {0, 0, 0}, {-1, 9, math.MaxInt}} {
					for call, e := range errorsOf(t, r, letters, numbers) {
						if e != want {
							t.Error(name, call, e, "and not", want)
						}
					}
				}
			}
		}
	}
}

// P2.1, P2.2: the examples.
func TestExamples(t *testing.T) {
	r := example()
	if l, e := sheet.Drawings(r); !slices.Equal(l, []int{10, 20, 30, 40, 50}) || e != api.OK {
		t.Error(l, e)
	}
	for _, x := range []struct{ drawing, last, depth int }{{10, 2, 3}, {20, 1, 2}, {30, 2, 1}, {40, 1, 1}, {50, 1, 1}} {
		if n, e := sheet.Last(r, x.drawing); n != x.last || e != api.OK {
			t.Error(x.drawing, n, e)
		}
		if n, e := sheet.Depth(r, x.drawing); n != x.depth || e != api.OK {
			t.Error(x.drawing, n, e)
		}
	}
	for _, d := range append(far(), 1, 9, 11, 19, 21, 25, 51, 100) {
		if n, e := sheet.Last(r, d); n != 0 || e != api.ErrNone {
			t.Error(d, n, e)
		}
		if n, e := sheet.Depth(r, d); n != 0 || e != api.ErrNone {
			t.Error(d, n, e)
		}
	}
}

// P2.1: At returns each issue as it is, and ErrNone for what is none.
func TestAt(t *testing.T) {
	for name, r := range valid() {
		for _, x := range r.Issues {
			got, e := sheet.At(r, api.Ref{Drawing: x.Drawing, Letter: x.Letter})
			if fmt.Sprint(got) != fmt.Sprint(x) || e != api.OK {
				t.Error(name, x, got, e)
			}
		}
		for _, d := range append(drawingsOf(r), far()...) {
			for _, letter := range append(far(), 9) {
				if x, e := sheet.At(r, api.Ref{Drawing: d, Letter: letter}); fmt.Sprint(x) != "{0 0 0 [] []}" || e != api.ErrNone {
					t.Error(name, d, letter, x, e)
				}
			}
		}
	}
	for _, x := range []api.Ref{{Drawing: 20, Letter: 2}, {Drawing: 30, Letter: 3}, {Drawing: 10, Letter: 3}, {Drawing: 25, Letter: 1}, {Drawing: 1, Letter: 10}, {Drawing: 60, Letter: 1}, {Drawing: 5, Letter: 1}, {}} {
		if got, e := sheet.At(example(), x); fmt.Sprint(got) != "{0 0 0 [] []}" || e != api.ErrNone {
			t.Error(x, got, e)
		}
	}
}

// P2.1: numbers and last letters of any register.
func TestDrawingsAndLast(t *testing.T) {
	rnd := rand.New(rand.NewSource(22))
	for range 300 {
		r := someRegister(rnd)
		want := drawingsOf(r)
		if l, e := sheet.Drawings(r); !slices.Equal(l, want) || !slices.IsSorted(l) || e != api.OK {
			t.Fatal(r, l, e)
		}
		lasts := lettersOf(r, func(last int) int { return last })
		for i, d := range want {
			if n, e := sheet.Last(r, d); n != lasts[i] || e != api.OK {
				t.Fatal(r, d, n, e)
			}
		}
	}
}

// P2.2, P2.12: a chain is by 1 longer than the longest one of the items of all issues.
func TestDepth(t *testing.T) {
	for n := 1; n <= api.MaxDepth; n++ {
		for d := 1; d <= n; d++ {
			if got, e := sheet.Depth(row(1, n), d); got != n+1-d || e != api.OK {
				t.Error(n, d, got, e)
			}
		}
	}
	byIssues := register(assembly(1, 1, 2, 1), assembly(1, 2, 4, 1), assembly(2, 1, 3, 1), assembly(2, 2, 4, 1), assembly(3, 1, 4, 1), part(4, 1))
	if got, e := sheet.Depth(byIssues, 1); got != 4 || e != api.OK {
		t.Error("not by all issues:", got, e)
	}
	rnd := rand.New(rand.NewSource(23))
	seen := map[int]int{}
	for range 300 {
		r := someRegister(rnd)
		for _, x := range r.Issues {
			depth, e := sheet.Depth(r, x.Drawing)
			if depth != deepest(r, x.Drawing, 30) || e != api.OK {
				t.Fatal(r, x, depth, e)
			}
			seen[depth]++
			for _, it := range x.Items {
				if n, e := sheet.Depth(r, it.Drawing); n >= depth || e != api.OK {
					t.Fatal(r, x, depth, it, n, e)
				}
			}
		}
	}
	for n := 1; n <= api.MaxDepth; n++ {
		if seen[n] == 0 {
			t.Error("no drawing of depth", n)
		}
	}
}
