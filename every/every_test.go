package every_test

import (
	"fmt"
	"math/rand"
	"slices"
	"testing"

	"blueline/api"
	"blueline/every"
	"blueline/trial"
)

func TestPart(t *testing.T) {
	for _, x := range []struct {
		l    []string
		want string
	}{
		{nil, "[[]]"},
		{[]string{"a"}, "[[] [a]]"},
		{[]string{"b", "a", "b"}, "[[] [b] [a] [b a] [b] [b b] [a b] [b a b]]"},
	} {
		all := slices.Collect(every.Part(x.l))
		if fmt.Sprint(all) != x.want {
			t.Error(x.l, all)
		}
		for _, part := range all {
			trial.Scribble(part, "z")
		}
		if again := slices.Collect(every.Part(x.l)); fmt.Sprint(again) != x.want {
			t.Error(x.l, again)
		}
	}
	seen := 0
	for part := range every.Part([]int{1, 2, 3}) {
		if seen++; len(part) == 2 {
			break
		}
	}
	if seen != 4 {
		t.Error(seen)
	}
}

func TestTruth(t *testing.T) {
	rnd := rand.New(rand.NewSource(1))
	for range 300 {
		n := trial.SomeNotes(rnd)
		got, want := slices.Collect(every.Truth(n)), trial.TruthsOf(n)
		slices.SortFunc(got, slices.Compare)
		slices.SortFunc(want, slices.Compare)
		if fmt.Sprint(got) != fmt.Sprint(want) {
			t.Fatal(n, got, want)
		}
	}
	none := trial.Noted(trial.Gives(2, 1, 30, 2, 1, 9), trial.As(api.KnownNo, trial.Gives(1, 2, 30, 1, 1, 9)))
	if l := slices.Collect(every.Truth(none)); fmt.Sprint(l) != "[[]]" {
		t.Error(l)
	}
}

func TestBest(t *testing.T) {
	sum := func(l []int) int {
		n := 0
		for _, x := range l {
			n += x
		}
		return n
	}
	first := func(l []int) int { return sum(l[:min(1, len(l))]) }
	none := func([]int) int { return -7 }
	for i, x := range []struct {
		lists [][]int
		worth func([]int) int
		best  []int
		most  int
	}{
		{nil, none, nil, 0}, {[][]int{{3}}, none, []int{3}, -7}, {[][]int{nil}, none, nil, -7},
		{[][]int{{1, 2}, {4}, {3, 2}}, sum, []int{3, 2}, 5}, {[][]int{{-1, -2}, {-4}, {-3, -2}}, sum, []int{-1, -2}, -3},
		{[][]int{{1, 2}, {3}, {2, 1}}, sum, []int{3}, 3}, {[][]int{{3}, {1, 2}, nil}, none, nil, -7},
		{[][]int{{2, 1}, {1, 2}, {0, 3}, {2, 1}}, sum, []int{0, 3}, 3}, {[][]int{{1, 3}, {1, 2}, {1, 4}}, first, []int{1, 2}, 1}, {[][]int{{1, 2}, {1, 3}}, none, []int{1, 2}, -7},
	} {
		if best, most := every.Best(slices.Values(x.lists), x.worth); !slices.Equal(best, x.best) || most != x.most {
			t.Error(i, best, most)
		}
	}
	if best, most := every.Best(every.Part([]string{"c", "a", "b"}), func(l []string) int { return min(2, len(l)) }); most != 2 || !slices.Equal(best, []string{"a", "b"}) {
		t.Error(best, most)
	}
}
