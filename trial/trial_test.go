package trial_test

import (
	"fmt"
	"slices"
	"strconv"
	"sync/atomic"
	"testing"

	"blueline/api"
	"blueline/sheet"
	"blueline/trial"
)

func TestUnsteady(t *testing.T) {
	var made atomic.Int64
	steady := func() string { return "as ever" }
	counting := func() string { return strconv.Itoa(int(made.Add(1))) }
	once := func() string { return strconv.FormatBool(made.Add(1) == 1) }
	for name, x := range map[string]struct {
		calls []func() string
		found bool
	}{"none": {nil, false}, "one": {[]func() string{steady}, false}, "two": {[]func() string{steady, steady}, false}, "counting": {[]func() string{steady, counting}, true}, "once": {[]func() string{once, steady}, true}} {
		made.Store(0)
		if l := trial.Unsteady(x.calls); (len(l) > 0) != x.found {
			t.Error(name, l)
		}
	}
}

func TestRoomy(t *testing.T) {
	l := []int{1, 2}
	roomy := trial.Roomy(l, 7)
	if !slices.Equal(roomy, l) || !slices.Equal(roomy[:5], []int{1, 2, 7, 7, 7}) {
		t.Error(roomy[:cap(roomy)])
	}
	trial.Scribble(roomy, 9)
	if slices.ContainsFunc(roomy[:cap(roomy)], func(n int) bool { return n != 9 }) || !slices.Equal(l, []int{1, 2}) {
		t.Error(roomy[:cap(roomy)], l)
	}
}

func TestRegisters(t *testing.T) {
	r := trial.Example()
	for _, other := range []api.Register{trial.Clone(r), trial.RoomyRegister(r, 30)} {
		if sheet.Check(other) != api.OK || fmt.Sprint(other) != fmt.Sprint(trial.Example()) {
			t.Error(other)
		}
		other.Issues[0].Items[0].Count, other.Issues[3].Dims[0].Lower, other.Issues[5].Letter = -1, -1, -1
		if fmt.Sprint(r) != fmt.Sprint(trial.Example()) {
			t.Error(r)
		}
	}
}
