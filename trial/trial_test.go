package trial_test

import (
	"strconv"
	"sync/atomic"
	"testing"

	"blueline/trial"
)

func TestUnsteady(t *testing.T) {
	var made atomic.Int64
	steady := func() string { return "as ever" }
	counting := func() string { return strconv.Itoa(int(made.Add(1))) }
	once := func() string { return strconv.FormatBool(made.Add(1) == 1) }
	for name, x := range map[string]struct {
		calls []func() string
		found bool
	}{"none": {nil, false}, "one": {[]func() string{steady}, false}, "two": {[]func() string{steady, steady}, false}, "counting": {[]func() string{steady, counting}, true}, "once": {[]func() string{once, steady}, true}} {
		made.Store(0)
		if l := trial.Unsteady(x.calls); (len(l) > 0) != x.found {
			t.Error(name, l)
		}
	}
}
