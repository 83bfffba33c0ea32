package every_test

import (
	"fmt"
	"math/rand"
	"slices"
	"testing"

	"blueline/api"
	"blueline/every"
	"blueline/trial"
)

func TestPart(t *testing.T) {
	for _, x := range []struct {
		l    []string
		want string
	}{
		{nil, "[[]]"},
		{[]string{"a"}, "[[] [a]]"},
		{[]string{"b", "a", "b"}, "[[] [b] [a] [b a] [b] [b b] [a b] [b a b]]"},
	} {
		all := slices.Collect(every.Part(x.l))
		if fmt.Sprint(all) != x.want {
			t.Error(x.l, all)
		}
		for _, part := range all {
			trial.Scribble(part, "z")
		}
		if again := slices.Collect(every.Part(x.l)); fmt.Sprint(again) != x.want {
			t.Error(x.l, again)
		}
	}
	seen := 0
	for part := range every.Part([]int{1, 2, 3}) {
		if seen++; len(part) == 2 {
			break
		}
	}
	if seen != 4 {
		t.Error(seen)
	}
}

func TestTruth(t *testing.T) {
	rnd := rand.New(rand.NewSource(1))
	for range 300 {
		n := trial.SomeNotes(rnd)
		got, want := slices.Collect(every.Truth(n)), trial.TruthsOf(n)
		slices.SortFunc(got, slices.Compare)
		slices.SortFunc(want, slices.Compare)
		if fmt.Sprint(got) != fmt.Sprint(want) {
			t.Fatal(n, got, want)
		}
	}
	none := trial.Noted(trial.Gives(2, 1, 30, 2, 1, 9), trial.As(api.KnownNo, trial.Gives(1, 2, 30, 1, 1, 9)))
	if l := slices.Collect(every.Truth(none)); fmt.Sprint(l) != "[[]]" {
		t.Error(l)
	}
}
