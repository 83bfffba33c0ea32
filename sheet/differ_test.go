package sheet_test

import (
	"fmt"
	"math/rand"
	"slices"
	"testing"

	"blueline/api"
	"blueline/sheet"
)

// changesOf returns changes, each a drawing, what was, and what is.
func changesOf(numbers ...int) []api.Change {
	var l []api.Change
	for c := range slices.Chunk(numbers, 3) {
		l = append(l, api.Change{Drawing: c[0], Was: c[1], Now: c[2]})
	}
	return l
}

// P2.5: the examples, drawings at either end, sizes that just one issue has, and none.
func TestDiffer(t *testing.T) {
	a, b, c := dim(150, 100, 200), dim(150, 120, 200), dim(0, 0, 0)
	sizes := register(part(1, 1, a, b, c), part(1, 2, a, b), part(1, 3), part(1, 4, b, a, c, c), part(1, 5, dim(151, 100, 200), b, c), part(1, 6, dim(150, 100, 201), b, c), part(1, 7, a, b, c), standard(2, 1), standard(2, 2, c))
	made := register(append([]api.Issue{assembly(5, 1, 6, 1, 7, 2), assembly(5, 2, 4, 3, 6, 2, 7, 2), assembly(5, 3, 8, 1), assembly(5, 4, 6, 1, 7, 2), assembly(5, 5, 6, 2, 7, 1)}, parts(6, 3, 1)...)...)
	made.Issues = append([]api.Issue{part(4, 1)}, made.Issues...)
	for _, x := range []struct {
		r                 api.Register
		drawing, from, to int
		changes           []api.Change
		dims              []int
	}{
		{example(), 10, 1, 2, changesOf(20, 2, 1, 30, 1, 2, 40, 0, 2), nil}, {example(), 10, 2, 1, changesOf(20, 1, 2, 30, 2, 1, 40, 2, 0), nil}, {example(), 30, 1, 2, nil, []int{0}}, {example(), 30, 2, 1, nil, []int{0}}, {example(), 10, 2, 2, nil, nil}, {example(), 50, 1, 1, nil, nil},
		{sizes, 1, 1, 2, nil, []int{2}}, {sizes, 1, 2, 1, nil, []int{2}}, {sizes, 1, 1, 3, nil, []int{0, 1, 2}}, {sizes, 1, 3, 4, nil, []int{0, 1, 2, 3}}, {sizes, 1, 1, 4, nil, []int{0, 1, 3}}, {sizes, 1, 2, 4, nil, []int{0, 1, 2, 3}}, {sizes, 1, 1, 5, nil, []int{0}}, {sizes, 1, 1, 6, nil, []int{0}}, {sizes, 1, 5, 6, nil, []int{0}}, {sizes, 1, 1, 7, nil, nil}, {sizes, 2, 1, 2, nil, []int{0}}, {sizes, 2, 2, 1, nil, []int{0}},
		{made, 5, 1, 2, changesOf(4, 0, 3, 6, 1, 2), nil}, {made, 5, 2, 1, changesOf(4, 3, 0, 6, 2, 1), nil}, {made, 5, 1, 3, changesOf(6, 1, 0, 7, 2, 0, 8, 0, 1), nil}, {made, 5, 3, 2, changesOf(4, 0, 3, 6, 0, 2, 7, 0, 2, 8, 1, 0), nil}, {made, 5, 1, 4, nil, nil}, {made, 5, 1, 5, changesOf(6, 1, 2, 7, 2, 1), nil},
	} {
		changes, dims, e := sheet.Differ(x.r, x.drawing, x.from, x.to)
		if !slices.Equal(changes, x.changes) || !slices.Equal(dims, x.dims) || e != api.OK {
			t.Error(x.drawing, x.from, x.to, changes, dims, e)
		}
	}
}

// P2.5, R2, R5: ErrNone for a drawing that is none, and for either letter.
func TestDifferErrors(t *testing.T) {
	none := func(drawing, from, to int) {
		t.Helper()
		if changes, dims, e := sheet.Differ(example(), drawing, from, to); len(changes)+len(dims) > 0 || e != api.ErrNone {
			t.Error(drawing, from, to, changes, dims, e)
		}
	}
	for _, n := range append(far(), 3, 8, 9) {
		none(10, n, 1)
		none(10, 2, n)
		none(30, n, n)
		none(40, n, 1)
		none(40, 1, 2)
		none(n, 1, 1)
		none(n, 1, 2)
		none(n, n, n)
	}
	for _, d := range []int{1, 9, 11, 25, 51} {
		none(d, 1, 1)
	}
}

// P2.13: what differs there and back is turned round, and an issue with its changes is the other one.
func TestThereAndBack(t *testing.T) {
	rnd := rand.New(rand.NewSource(28))
	tried := 0
	for range 300 {
		r := someRegister(rnd)
		for _, x := range r.Issues {
			for _, y := range r.Issues {
				if x.Drawing == y.Drawing {
					tried++
					differAsTold(t, r, x, y)
				}
			}
		}
	}
	if tried < 1000 {
		t.Error("few issues were tried:", tried)
	}
}

// differAsTold checks how an issue differs from another one, by the items that it gets, and by its sizes.
func differAsTold(t *testing.T, r api.Register, x, y api.Issue) {
	t.Helper()
	there, dims, e := sheet.Differ(r, x.Drawing, x.Letter, y.Letter)
	back, again, f := sheet.Differ(r, x.Drawing, y.Letter, x.Letter)
	if e != api.OK || f != api.OK || len(there) != len(back) || !slices.Equal(dims, again) {
		t.Fatal(r, x, y, there, dims, e, back, again, f)
	}
	now := map[int]int{}
	for _, it := range x.Items {
		now[it.Drawing] = it.Count
	}
	for i, c := range there {
		if back[i] != (api.Change{Drawing: c.Drawing, Was: c.Now, Now: c.Was}) || c.Was == c.Now || now[c.Drawing] != c.Was || i > 0 && there[i-1].Drawing >= c.Drawing {
			t.Fatal(r, x, y, there, back)
		}
		if now[c.Drawing] = c.Now; c.Now == 0 {
			delete(now, c.Drawing)
		}
	}
	if !slices.Equal(items(now), y.Items) {
		t.Fatal(r, x, y, there, now)
	}
	var want []int
	for i := range api.MaxSizes {
		if i < len(x.Dims) != (i < len(y.Dims)) || i < len(x.Dims) && x.Dims[i] != y.Dims[i] {
			want = append(want, i)
		}
	}
	if !slices.Equal(dims, want) {
		t.Fatal(r, x, y, dims, want)
	}
}

// P2.6: the example, and whatever may be another one of an issue.
func TestClash(t *testing.T) {
	for name, x := range map[string]struct {
		b    api.Register
		want []api.Ref
	}{
		"same":            {example(), nil},
		"50 has a size":   {changed(func(l []api.Issue) { l[6].Dims = []api.Dim{{}} }), refs(50, 1)},
		"40 is standard":  {changed(func(l []api.Issue) { l[5].Kind = api.KindStandard }), refs(40, 1)},
		"50 is a part":    {changed(func(l []api.Issue) { l[6].Kind = api.KindPart }), refs(50, 1)},
		"30 is standard":  {changed(func(l []api.Issue) { l[3].Kind, l[4].Kind = api.KindStandard, api.KindStandard }), refs(30, 1, 30, 2)},
		"another nominal": {changed(func(l []api.Issue) { l[3].Dims[0].Nominal = 151 }), refs(30, 1)},
		"another lower":   {changed(func(l []api.Issue) { l[4].Dims[0].Lower = 119 }), refs(30, 2)},
		"another upper":   {changed(func(l []api.Issue) { l[4].Dims[0].Upper = 201 }), refs(30, 2)},
		"no size":         {changed(func(l []api.Issue) { l[3].Dims = nil }), refs(30, 1)},
		"two sizes":       {changed(func(l []api.Issue) { l[3].Dims = append(l[3].Dims, l[3].Dims[0]) }), refs(30, 1)},
		"another count":   {changed(func(l []api.Issue) { l[1].Items[2].Count = 3 }), refs(10, 2)},
		"another item":    {changed(func(l []api.Issue) { l[0].Items[1].Drawing = 40 }), refs(10, 1)},
		"an item more":    {changed(func(l []api.Issue) { l[2].Items = counted(30, 3, 40, 1, 50, 1) }), refs(20, 1)},
		"one at the end":  {changed(func(l []api.Issue) { l[0].Items = counted(20, 2, 30, 1, 40, 1) }), refs(10, 1)},
		"an item less":    {changed(func(l []api.Issue) { l[2].Items = counted(30, 3) }), refs(20, 1)},
		"40 is made":      {changed(func(l []api.Issue) { l[5] = assembly(40, 1, 50, 1) }), refs(40, 1)},
		"20 is a part":    {changed(func(l []api.Issue) { l[2] = part(20, 1) }), refs(20, 1)},
		"all of it": {changed(func(l []api.Issue) {
			l[0].Items[0].Count, l[2].Items[0].Count, l[4].Dims, l[6].Kind = 3, 4, nil, api.KindPart
		}), refs(10, 1, 20, 1, 30, 2, 50, 1)},
		"nothing of it": {register(part(1, 1, dim(0, 0, 0)), part(25, 1), part(60, 1)), nil},
		"one alone":     {register(part(40, 1), part(40, 2, dim(0, 0, 0))), nil},
		"A alone":       {register(part(30, 1, dim(150, 100, 200))), nil},
		"A of another":  {register(part(30, 1, dim(150, 120, 200))), refs(30, 1)},
		"empty lists": {changed(func(l []api.Issue) {
			l[0].Dims, l[3].Items, l[5].Items, l[5].Dims = []api.Dim{}, []api.Item{}, []api.Item{}, []api.Dim{}
		}), nil},
	} {
		a := example()
		l, e := sheet.Clash(a, x.b)
		again, f := sheet.Clash(x.b, a)
		if !slices.Equal(l, x.want) || e != api.OK || !slices.Equal(again, x.want) || f != api.OK {
			t.Error(name, l, e, again, f)
		}
		merged, e := sheet.Merge(a, x.b)
		turned, f := sheet.Merge(x.b, a)
		if len(x.want) > 0 && (e != api.ErrDiffer || f != api.ErrDiffer || len(merged.Issues)+len(turned.Issues) > 0) || len(x.want) == 0 && (e != api.OK || f != api.OK) {
			t.Error(name, merged, e, turned, f)
		}
	}
}

// P2.6, P2.7: all issues of both, in order, each once, and with all that it has.
func TestMerge(t *testing.T) {
	a, b, c := dim(150, 100, 200), dim(150, 120, 200), dim(0, 0, 0)
	for name, x := range map[string][3]api.Register{
		"itself":        {example(), example(), example()},
		"one behind":    {register(part(1, 1, a)), register(part(2, 1, b)), register(part(1, 1, a), part(2, 1, b))},
		"letters more":  {register(part(1, 1, a)), register(part(1, 1, a), part(1, 2, b), part(1, 3, c)), register(part(1, 1, a), part(1, 2, b), part(1, 3, c))},
		"each of two":   {register(part(1, 1), part(1, 2), part(2, 1), part(4, 1)), register(part(1, 1), part(2, 1), part(2, 2), standard(3, 1)), register(part(1, 1), part(1, 2), part(2, 1), part(2, 2), standard(3, 1), part(4, 1))},
		"in between":    {register(part(2, 1), part(4, 1), part(6, 1)), register(part(1, 1), part(3, 1), part(5, 1), part(7, 1)), register(parts(1, 7, 1)...)},
		"items of both": {register(assembly(1, 1, 3, 1), part(3, 1)), register(assembly(1, 1, 3, 1), assembly(1, 2, 2, 1, 3, 1), part(2, 1), part(3, 1), part(3, 2)), register(assembly(1, 1, 3, 1), assembly(1, 2, 2, 1, 3, 1), part(2, 1), part(3, 1), part(3, 2))},
		"one is below":  {register(assembly(5, 1, 7, 2), part(7, 1)), register(assembly(3, 1, 5, 2), assembly(5, 1, 7, 2), part(7, 1)), register(assembly(3, 1, 5, 2), assembly(5, 1, 7, 2), part(7, 1))},
		"of the example": {without(example(), func(x api.Issue) bool { return x.Drawing == 10 }), without(example(), func(x api.Issue) bool { return x.Letter == 2 }),
			without(example(), func(x api.Issue) bool { return x.Drawing == 10 && x.Letter == 2 })},
		"20 drawings":  {register(parts(1, 12, 3)...), register(parts(9, 12, 3)...), register(parts(1, 20, 3)...)},
		"6 in a chain": {row(1, 6), row(3, 4), row(1, 6)},
	} {
		for range 2 {
			merged, e := sheet.Merge(x[0], x[1])
			if fmt.Sprint(merged) != fmt.Sprint(x[2]) || e != api.OK {
				t.Error(name, merged, e)
			}
			x[0], x[1] = x[1], x[0]
		}
	}
}

// P2.6, R1: the first register's error is ahead of the second one's, then ErrDiffer, then Check's error of what is merged.
func TestMergeErrors(t *testing.T) {
	wrong, circle := changed(func(l []api.Issue) { l[5].Kind = 4 }), ring(2)
	up, down := register(assembly(1, 1, 2, 1), assembly(2, 1, 3, 1), part(3, 1)), register(part(1, 1), assembly(2, 1, 3, 1), assembly(2, 2, 1, 1), part(3, 1))
	// Of each two the issues that just one of them has make a circle, or a chain that is too long.
	inCircle := register(assembly(2, 1, 3, 1), assembly(2, 2, 4, 1), part(3, 1), assembly(4, 1, 5, 1), part(5, 1))
	outCircle := register(assembly(2, 1, 3, 1), part(3, 1), assembly(4, 1, 5, 1), assembly(4, 2, 2, 1), part(5, 1))
	long := register(append(row(1, 6).Issues[:5], assembly(6, 1, 8, 1), part(8, 1))...)
	upper := register(assembly(1, 1, 9, 1), assembly(1, 2, 2, 1), assembly(2, 1, 9, 1), part(9, 1))
	lower := register(assembly(2, 1, 9, 1), assembly(2, 2, 3, 1), assembly(3, 1, 4, 1), assembly(4, 1, 5, 1), assembly(5, 1, 6, 1), assembly(6, 1, 9, 1), part(9, 1))
	for name, x := range map[string]struct {
		a, b     api.Register
		clash, e api.Errno
	}{
		"wrong, circle": {wrong, circle, api.ErrRegister, api.ErrRegister}, "circle, wrong": {circle, wrong, api.ErrCircle, api.ErrCircle},
		"wrong, good": {wrong, example(), api.ErrRegister, api.ErrRegister}, "good, wrong": {example(), wrong, api.ErrRegister, api.ErrRegister}, "circle, good": {circle, example(), api.ErrCircle, api.ErrCircle}, "good, circle": {example(), circle, api.ErrCircle, api.ErrCircle}, "none": {register(), example(), api.ErrRegister, api.ErrRegister}, "of none": {example(), register(), api.ErrRegister, api.ErrRegister}, "too long": {long, example(), api.ErrRegister, api.ErrRegister},
		"clash and circle": {up, down, api.OK, api.ErrDiffer}, "clash and 21": {register(parts(1, 20, 1)...), register(standard(20, 1), part(21, 1)), api.OK, api.ErrDiffer},
		"21 drawings": {register(parts(1, 20, 1)...), register(parts(21, 1, 1)...), api.OK, api.ErrRegister}, "61 issues": {register(parts(1, 20, 3)...), register(parts(1, 1, 4)...), api.OK, api.ErrRegister},
		"a circle": {inCircle, outCircle, api.OK, api.ErrCircle}, "7 in a chain": {upper, lower, api.OK, api.ErrRegister}, "other kinds": {register(part(1, 1)), register(standard(1, 1), standard(1, 2)), api.OK, api.ErrDiffer},
		"a circle, 21 drawings": {register(append(inCircle.Issues, parts(6, 16, 1)...)...), register(append(outCircle.Issues, part(22, 1))...), api.OK, api.ErrRegister},
	} {
		l, e := sheet.Clash(x.a, x.b)
		merged, f := sheet.Merge(x.a, x.b)
		if e != x.clash || e != api.OK && len(l) > 0 || f != x.e || len(merged.Issues) > 0 {
			t.Error(name, l, e, merged, f)
		}
	}
}

// cut returns a part of a register: some drawings, each with its first issues, and all that these need.
func cut(rnd *rand.Rand, r api.Register) api.Register {
	drawings := drawingsOf(r)
	some := map[int]bool{drawings[rnd.Intn(len(drawings))]: true}
	for _, d := range drawings {
		some[d] = some[d] || rnd.Intn(3) == 0
	}
	last := map[int]int{}
	for _, d := range drawings {
		last[d] = 1 + rnd.Intn(3)
	}
	for range drawings {
		for _, x := range r.Issues {
			for _, it := range x.Items {
				some[it.Drawing] = some[it.Drawing] || some[x.Drawing] && x.Letter <= last[x.Drawing]
			}
		}
	}
	return without(r, func(x api.Issue) bool { return !some[x.Drawing] || x.Letter > last[x.Drawing] })
}

// P2.6, P2.7: registers are merged just if no issues of both differ, and nothing is lost; P2.8: it does not matter which one is merged into which.
func TestMergedIsAll(t *testing.T) {
	rnd := rand.New(rand.NewSource(29))
	seen := map[api.Errno]int{}
	for range 1500 {
		r := someRegister(rnd)
		a, b := cut(rnd, r), cut(rnd, r)
		if rnd.Intn(2) == 0 {
			if spoil(rnd, b); sheet.Check(b) != api.OK {
				continue
			}
		}
		both := map[api.Ref]api.Issue{}
		var want []api.Ref
		for _, x := range a.Issues {
			both[api.Ref{Drawing: x.Drawing, Letter: x.Letter}] = x
		}
		for _, x := range b.Issues {
			name := api.Ref{Drawing: x.Drawing, Letter: x.Letter}
			if other, ok := both[name]; ok && fmt.Sprint(other) != fmt.Sprint(x) {
				want = append(want, name)
			}
			both[name] = x
		}
		if l, e := sheet.Clash(a, b); !slices.Equal(l, want) || e != api.OK {
			t.Fatal(a, b, l, e, want)
		}
		merged, e := sheet.Merge(a, b)
		seen[e]++
		if (e == api.ErrDiffer) != (len(want) > 0) || e != api.OK && len(merged.Issues) > 0 {
			t.Fatal(a, b, merged, e, want)
		}
		turned, f := sheet.Merge(b, a)
		if fmt.Sprint(turned) != fmt.Sprint(merged) || e != f {
			t.Fatal(a, b, merged, e, turned, f)
		}
		if len(want) == 0 {
			mergedIsAll(t, a, b, merged, e, both)
		}
	}
	if seen[api.OK] < 100 || seen[api.ErrDiffer] < 50 {
		t.Error("few of a kind:", seen)
	}
}

// mergedIsAll checks what is merged of two registers that do not clash against all of their issues.
func mergedIsAll(t *testing.T, a, b, merged api.Register, e api.Errno, both map[api.Ref]api.Issue) {
	t.Helper()
	all := api.Register{}
	for _, x := range both {
		all.Issues = append(all.Issues, x)
	}
	slices.SortFunc(all.Issues, func(x, y api.Issue) int { return (x.Drawing-y.Drawing)*10 + x.Letter - y.Letter })
	if want := naive(all); e != want {
		t.Fatal(a, b, e, want)
	}
	if e != api.OK {
		return
	}
	if fmt.Sprint(merged) != fmt.Sprint(all) || sheet.Check(merged) != api.OK {
		t.Fatal(a, b, merged)
	}
	for _, x := range both {
		if got, e := sheet.At(merged, api.Ref{Drawing: x.Drawing, Letter: x.Letter}); fmt.Sprint(got) != fmt.Sprint(x) || e != api.OK {
			t.Fatal(a, b, merged, got, e)
		}
	}
	for _, r := range []api.Register{merged, a, b} {
		if again, e := sheet.Merge(merged, r); fmt.Sprint(again) != fmt.Sprint(merged) || e != api.OK {
			t.Fatal(a, b, merged, again, e)
		}
		if again, e := sheet.Merge(r, merged); fmt.Sprint(again) != fmt.Sprint(merged) || e != api.OK {
			t.Fatal(a, b, merged, again, e)
		}
	}
}
