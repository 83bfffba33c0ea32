package trial

import (
	"maps"
	"slices"
	"strings"

	"blueline/api"
)

// Function is a function of a chapter, with words that tell which arguments it takes; Call returns a text of its results, and its error.
type Function[S, A any] struct {
	Name, Takes string
	Call        func(s S, a A) (string, api.Errno)
}

// Of returns a function of a chapter.
func Of[S, A any](name, takes string, call func(s S, a A) (string, api.Errno)) Function[S, A] {
	return Function[S, A]{Name: name, Takes: takes, Call: call}
}

// Has reports whether a function takes such an argument.
func (f Function[S, A]) Has(word string) bool { return strings.Contains(f.Takes, word) }

// Calls returns calls of all functions with each thing and all arguments, each with a text of its results.
func Calls[S, A any](functions []Function[S, A], things map[string]S, arguments []A) []func() string {
	var l []func() string
	for _, name := range slices.Sorted(maps.Keys(things)) {
		for _, f := range functions {
			for _, a := range arguments {
				l = append(l, func() string {
					text, e := f.Call(things[name], a)
					return text + " " + e.Error()
				})
			}
		}
	}
	return l
}

// Texts returns a text of what each function returns for a thing and arguments.
func Texts[S, A any](functions []Function[S, A], thing S, a A) []string {
	var l []string
	for _, f := range functions {
		text, e := f.Call(thing, a)
		l = append(l, f.Name+": "+text+" "+e.Error())
	}
	return l
}

// Early returns the names of all functions that return another error than the one that comes first for a thing, or something else with it, whatever the arguments are (R1, R2).
func Early[S, A any](functions []Function[S, A], things map[string]S, arguments []A, first func(S) api.Errno, isNothing func(text string) bool) []string {
	var l []string
	for _, name := range slices.Sorted(maps.Keys(things)) {
		want := first(things[name])
		for _, f := range functions {
			for _, a := range arguments {
				if text, e := f.Call(things[name], a); want == api.OK || e != want || !isNothing(text) {
					l = append(l, f.Name+" of "+name+": "+text+" "+e.Error())
				}
			}
		}
	}
	return l
}

// Wrong is how an argument is made a wrong one, for which functions that take such a one return an error.
type Wrong[A any] struct {
	Word  string
	Make  func(a *A)
	Error api.Errno
}

// Badly returns how an argument is made a wrong one.
func Badly[A any](word string, change func(a *A), e api.Errno) Wrong[A] {
	return Wrong[A]{Word: word, Make: change, Error: e}
}

// Disordered returns the names of all functions that do not return the error of the first one of some wrong arguments that they take, whichever are wrong (R1, R2).
func Disordered[S, A any](functions []Function[S, A], thing S, good A, wrongs []Wrong[A], isNothing func(text string) bool) []string {
	var l []string
	for bits := range 1 << len(wrongs) {
		for _, f := range functions {
			a, want, name := good, api.OK, f.Name
			for i, w := range wrongs {
				if bits>>i&1 == 0 {
					continue
				}
				w.Make(&a)
				name += ", " + w.Word
				if want == api.OK && f.Has(w.Word) {
					want = w.Error
				}
			}
			if text, e := f.Call(thing, a); e != want || want != api.OK && !isNothing(text) {
				l = append(l, name+": "+text+" "+e.Error())
			}
		}
	}
	return l
}
