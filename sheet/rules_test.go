package sheet_test

import (
	"fmt"
	"maps"
	"math/rand"
	"slices"
	"testing"

	"blueline/api"
	"blueline/sheet"
	"blueline/trial"
)

// callsOf returns calls of all functions with a register, each with a text of its results.
func callsOf(r, other api.Register, letters []int, drawing, from, to int) []func() string {
	return []func() string{
		func() string { return fmt.Sprint(sheet.Check(r)) },
		func() string { return fmt.Sprint(sheet.Drawings(r)) },
		func() string { return fmt.Sprint(sheet.Last(r, drawing)) },
		func() string { return fmt.Sprint(sheet.At(r, api.Ref{Drawing: drawing, Letter: from})) },
		func() string { return fmt.Sprint(sheet.Depth(r, drawing)) },
		func() string { return fmt.Sprint(sheet.Explode(r, letters, drawing)) },
		func() string { return fmt.Sprint(sheet.Tree(r, letters, drawing)) },
		func() string { return fmt.Sprint(sheet.Uses(r, drawing)) },
		func() string { return fmt.Sprint(sheet.Above(r, letters, drawing)) },
		func() string { return fmt.Sprint(sheet.Differ(r, drawing, from, to)) },
		func() string { return fmt.Sprint(sheet.Clash(r, other)) },
		func() string { return fmt.Sprint(sheet.Merge(other, r)) },
	}
}

// calls returns calls of all functions, with good and bad arguments.
func calls() []func() string {
	var l []func() string
	for _, of := range []map[string]api.Register{valid(), wrongRegisters(), circles()} {
		for _, name := range slices.Sorted(maps.Keys(of)) {
			r := of[name]
			last := lettersOf(r, func(last int) int { return last })
			for _, d := range []int{1, 10, 20, 0} {
				l = append(l, callsOf(r, example(), lettersOf(r, firstLetter), d, 1, 2)...)
				l = append(l, callsOf(r, r, last, d, 2, 1)...)
			}
		}
	}
	for _, letters := range wrongLetters() {
		l = append(l, callsOf(example(), row(50, 3), letters, 10, 2, 1)...)
	}
	return l
}

// R3, R7: a call returns what it does, whatever was called before it, or is called beside it; none panics.
func TestNothingIsRemembered(t *testing.T) {
	for _, wrong := range trial.Unsteady(calls()) {
		t.Error(wrong)
	}
}

// R3: a register that was changed since is another one, also if its memory is the same.
func TestChangedSince(t *testing.T) {
	r := example()
	letters := []int{2, 1, 1, 1, 1}
	for _, want := range []string{"[{30 5} {40 2} {50 1}] error 0", "[{30 7} {40 2} {50 1}] error 0", "[] error 22"} {
		if s := fmt.Sprint(sheet.Explode(r, letters, 10)); s != want {
			t.Error(s, want)
		}
		if r.Issues[2].Items[0].Count == 5 {
			letters[0] = 3
		}
		r.Issues[2].Items[0].Count = 5
	}
	r.Issues[2].Items[0].Drawing = 10
	if e := sheet.Check(r); e != api.ErrCircle {
		t.Error(e)
	}
	r.Issues[2].Items[0].Drawing = 20
	if e := sheet.Check(r); e != api.ErrRegister {
		t.Error(e)
	}
	r.Issues[2].Items[0].Drawing = 30
	if e := sheet.Check(r); e != api.OK {
		t.Error(e)
	}
}

// allOf is a text of a register with what is behind the ends of its lists.
func allOf(r api.Register) string {
	s := ""
	for _, x := range r.Issues[:cap(r.Issues)] {
		s += fmt.Sprint(x.Drawing, x.Letter, x.Kind, len(x.Items), x.Items[:cap(x.Items)], len(x.Dims), x.Dims[:cap(x.Dims)], "; ")
	}
	return s
}

// R3: nothing is written to arguments, nor behind their ends, and what is there does not matter.
func TestArgumentsAreNotWritten(t *testing.T) {
	registers := []api.Register{example(), wide(), bush(), row(1, 6), row(1, 7), ring(3), changed(func(l []api.Issue) { slices.Reverse(l) }), changed(func(l []api.Issue) { slices.Reverse(l[1].Items) }), register(part(10, 1), part(30, 1, dim(150, 100, 200)), part(30, 2, dim(150, 120, 200), dim(1, 1, 1)))}
	for i, r := range registers {
		for k, other := range registers {
			for _, n := range []int{0, 10, 20, 30, 40} {
				a, b := trial.RoomyRegister(r, n), trial.RoomyRegister(other, n)
				letters := trial.Roomy(lettersOf(r, firstLetter), n)
				before := allOf(a) + allOf(b) + fmt.Sprint(letters[:cap(letters)])
				for _, d := range []int{10, 30, 1} {
					plain := callsOf(r, other, lettersOf(r, firstLetter), d, 1, 2)
					for c, call := range callsOf(a, b, letters, d, 1, 2) {
						if s, want := call(), plain[c](); s != want {
							t.Error(i, k, n, d, c, s, "and not", want)
						}
					}
				}
				if after := allOf(a) + allOf(b) + fmt.Sprint(letters[:cap(letters)]); after != before {
					t.Error(i, k, n, before, "is", after)
				}
			}
		}
	}
}

// scribble writes over all lists of a register, none of which may share memory with another one.
func scribble(t *testing.T, r, want api.Register) {
	t.Helper()
	if shared := trial.ScribbleRegister(r, want); len(shared) > 0 {
		t.Error("two lists of a result share memory:", shared)
	}
}

// R3: what is written to a result is not written to arguments, nor to other results.
func TestResultsAreNew(t *testing.T) {
	for name, r := range valid() {
		r = trial.RoomyRegister(r, 5)
		letters := trial.Roomy(lettersOf(r, firstLetter), 5)
		before := allOf(r) + fmt.Sprint(letters[:cap(letters)])
		for _, x := range r.Issues {
			all := callsOf(r, r, letters, x.Drawing, x.Letter, 1)
			var texts []string
			for _, call := range all {
				texts = append(texts, call())
			}
			l, _ := sheet.Drawings(r)
			trial.Scribble(l, -1)
			issue, _ := sheet.At(r, api.Ref{Drawing: x.Drawing, Letter: x.Letter})
			scribble(t, register(issue), register(x))
			parts, _ := sheet.Explode(r, letters, x.Drawing)
			trial.Scribble(parts, api.Item{Drawing: -1, Count: -1})
			tree, _ := sheet.Tree(r, letters, x.Drawing)
			trial.Scribble(tree, api.Branch{Depth: -1})
			uses, _ := sheet.Uses(r, x.Drawing)
			trial.Scribble(uses, api.Ref{Drawing: -1})
			above, _ := sheet.Above(r, letters, x.Drawing)
			trial.Scribble(above, -1)
			changes, dims, _ := sheet.Differ(r, x.Drawing, x.Letter, 1)
			trial.Scribble(changes, api.Change{Drawing: -1})
			trial.Scribble(dims, -1)
			for i, call := range all {
				if s := call(); s != texts[i] {
					t.Error(name, x, i, s, "and before", texts[i])
				}
			}
		}
		if after := allOf(r) + fmt.Sprint(letters[:cap(letters)]); after != before {
			t.Error(name, before, "is", after)
		}
	}
}

// R3: a register that is merged shares no memory with either one, whichever its issues are of.
func TestMergedIsNew(t *testing.T) {
	rnd := rand.New(rand.NewSource(3))
	for range 200 {
		r := someRegister(rnd)
		a, b := trial.RoomyRegister(cut(rnd, r), 3), trial.RoomyRegister(cut(rnd, r), 4)
		before := allOf(a) + allOf(b)
		merged, e := sheet.Merge(a, b)
		if e != api.OK {
			t.Fatal(a, b, e)
		}
		scribble(t, merged, clone(merged))
		if after := allOf(a) + allOf(b); after != before {
			t.Fatal(before, "is", after)
		}
		c, e := sheet.Merge(a, a)
		scribble(t, c, a)
		if after := allOf(a) + allOf(b); e != api.OK || after != before {
			t.Fatal(e, before, "is", after)
		}
	}
}

// R4: a nil list and an empty one are the same, wherever they are.
func TestNilAndEmpty(t *testing.T) {
	for name, r := range valid() {
		empty := clone(r)
		for i, x := range empty.Issues {
			empty.Issues[i].Items = append([]api.Item{}, x.Items...)
			empty.Issues[i].Dims = append([]api.Dim{}, x.Dims...)
		}
		for _, x := range r.Issues {
			letters := lettersOf(r, firstLetter)
			plain := callsOf(r, r, letters, x.Drawing, x.Letter, 1)
			for i, call := range callsOf(empty, r, letters, x.Drawing, x.Letter, 1) {
				if s, want := call(), plain[i](); s != want {
					t.Error(name, x, i, s, want)
				}
			}
		}
		if l, e := sheet.Clash(r, empty); len(l) > 0 || e != api.OK {
			t.Error(name, l, e)
		}
	}
	for _, letters := range [][]int{nil, {}} {
		if _, e := sheet.Tree(example(), letters, 10); e != api.ErrLetters {
			t.Error(e)
		}
	}
}

// R6: a register is valid by what is in it alone, also one that no function would return.
func TestAnyValue(t *testing.T) {
	for kind := range 256 {
		r := register(api.Issue{Drawing: 1, Letter: 1, Kind: uint8(kind)})
		want := api.ErrRegister
		if kind == api.KindPart || kind == api.KindStandard {
			want = api.OK
		}
		if e := sheet.Check(r); e != want {
			t.Error(kind, e)
		}
		r = register(api.Issue{Drawing: 1, Letter: 1, Kind: uint8(kind), Items: counted(2, 1)}, part(2, 1))
		want = api.ErrRegister
		if kind == api.KindAssembly {
			want = api.OK
		}
		if e := sheet.Check(r); e != want {
			t.Error(kind, e)
		}
	}
}

// R7: each call ends soon, however much there is of anything, and however it is tangled.
func TestEnds(t *testing.T) {
	const many = 300000
	long := part(1, 1)
	long.Dims = make([]api.Dim, many)
	wrong := []api.Register{{Issues: make([]api.Issue, many)}, register(parts(1, many, 1)...), row(1, many), ring(many), register(long), register(api.Issue{Drawing: 1, Letter: 1, Kind: api.KindAssembly, Items: make([]api.Item, many)})}
	for i, r := range wrong {
		for call, e := range errorsOf(t, r, make([]int, many), [3]int{1, 1, 1}) {
			if e != api.ErrRegister {
				t.Error(i, call, e)
			}
		}
	}
	if _, e := sheet.Tree(example(), make([]int, many), 10); e != api.ErrLetters {
		t.Error(e)
	}
	for range 100 {
		if e := sheet.Check(thicket()); e != api.ErrRegister {
			t.Error(e)
		}
	}
}
