package trial

import (
	"math"
	"slices"

	"blueline/api"
)

// Dim returns a size.
func Dim(nominal, lower, upper int) api.Dim {
	return api.Dim{Nominal: nominal, Lower: lower, Upper: upper}
}

// Part returns an issue of a part.
func Part(drawing, letter int, dims ...api.Dim) api.Issue {
	return api.Issue{Drawing: drawing, Letter: letter, Kind: api.KindPart, Dims: dims}
}

// Standard returns an issue of a standard part.
func Standard(drawing, letter int, dims ...api.Dim) api.Issue {
	return api.Issue{Drawing: drawing, Letter: letter, Kind: api.KindStandard, Dims: dims}
}

// Assembly returns an issue of items, each a drawing and its count.
func Assembly(drawing, letter int, items ...int) api.Issue {
	return api.Issue{Drawing: drawing, Letter: letter, Kind: api.KindAssembly, Items: Counted(items...)}
}

// Counted returns items, each a drawing and its count.
func Counted(numbers ...int) []api.Item {
	var l []api.Item
	for c := range slices.Chunk(numbers, 2) {
		l = append(l, api.Item{Drawing: c[0], Count: c[1]})
	}
	return l
}

// Register returns a register of issues.
func Register(issues ...api.Issue) api.Register { return api.Register{Issues: issues} }

// Example returns the register of the examples of layer 2, and of layers above it.
func Example() api.Register {
	return Register(
		Assembly(10, 1, 20, 2, 30, 1), Assembly(10, 2, 20, 1, 30, 2, 40, 2),
		Assembly(20, 1, 30, 3, 50, 1),
		Part(30, 1, Dim(150, 100, 200)), Part(30, 2, Dim(150, 120, 200)),
		Part(40, 1), Standard(50, 1))
}

// Clone returns a register in memory of its own.
func Clone(r api.Register) api.Register {
	l := slices.Clone(r.Issues)
	for i := range l {
		l[i].Items = slices.Clone(l[i].Items)
		l[i].Dims = slices.Clone(l[i].Dims)
	}
	return api.Register{Issues: l}
}

// Far returns numbers that nothing in a register has.
func Far() []int {
	return []int{0, -1, -10, math.MinInt, math.MinInt + 1, math.MaxInt, math.MaxInt - 1, 1 << 32, 1<<32 + 1, 1<<32 + 10, -1 << 32, 1 << 62, 1<<31 + 1, 1<<16 + 1, 1<<16 + 10, 257, 266, api.MaxId + 1}
}

// Roomy returns a list with memory behind its end, which something is in.
func Roomy[T any](l []T, behind T) []T {
	long := append(slices.Clone(l), behind, behind, behind)
	return long[:len(l)]
}

// RoomyRegister returns a register all of whose lists have memory behind their ends.
func RoomyRegister(r api.Register, n int) api.Register {
	r = Clone(r)
	for i, x := range r.Issues {
		r.Issues[i].Items = Roomy(x.Items, api.Item{Drawing: n, Count: n})
		r.Issues[i].Dims = Roomy(x.Dims, Dim(n, n, n))
	}
	r.Issues = Roomy(r.Issues, Part(n, n, Dim(n, n, n)))
	return r
}

// Scribble writes over a list, and over the memory behind its end.
func Scribble[T any](l []T, with T) {
	l = l[:cap(l)]
	for i := range l {
		l[i] = with
	}
}

// ScribbleRegister writes over all lists of a register, from the last one on, and returns the issues of which a list had been written over with another one.
func ScribbleRegister(r, want api.Register) []api.Issue {
	var shared []api.Issue
	for i := len(r.Issues) - 1; i >= 0; i-- {
		x, y := r.Issues[i], want.Issues[i]
		if !slices.Equal(x.Items, y.Items) || !slices.Equal(x.Dims, y.Dims) {
			shared = append(shared, y)
		}
		Scribble(x.Items, api.Item{Drawing: -1, Count: -1})
		Scribble(x.Dims, Dim(-1, -1, -1))
	}
	Scribble(r.Issues, Part(-1, -1))
	return shared
}
