// Package trial is what the tests of several layers share. The program itself does not use it.
package trial

import (
	"strconv"
	"sync"
)

// Unsteady makes calls again, in other orders, twice, and side by side, and returns each one that does not return what it did at first (R3); a call returns a text of its results.
func Unsteady(calls []func() string) []string {
	want := make([]string, len(calls))
	for i, call := range calls {
		want[i] = call()
	}
	var wrong []string
	again := func(i int) {
		if w := other(calls, want, i); w != "" {
			wrong = append(wrong, w)
		}
	}
	for i := range calls {
		again(len(calls) - 1 - i)
	}
	for i := range calls {
		mixed := i * 7919 % len(calls)
		again(mixed)
		again(mixed)
	}
	return append(wrong, beside(calls, want)...)
}

// beside makes all calls in several goroutines, each of which begins with another one.
func beside(calls []func() string, want []string) []string {
	const workers = 4
	var wait sync.WaitGroup
	found := make([][]string, workers)
	for k := range workers {
		wait.Add(1)
		go func() {
			defer wait.Done()
			for i := range calls {
				if w := other(calls, want, (i+k*len(calls)/workers)%len(calls)); w != "" {
					found[k] = append(found[k], w)
				}
			}
		}()
	}
	wait.Wait()
	var wrong []string
	for _, l := range found {
		wrong = append(wrong, l...)
	}
	return wrong
}

// other tells what a call returns if it is not what is wanted.
func other(calls []func() string, want []string, i int) string {
	if s := calls[i](); s != want[i] {
		return "call " + strconv.Itoa(i) + ": " + s + ", and before " + want[i]
	}
	return ""
}
