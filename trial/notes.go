package trial

import (
	"cmp"
	"slices"

	"blueline/api"
)

// Gives returns a signed note that gives a drawing a letter for some machines.
func Gives(number, day, drawing, letter, from, to int) api.Note {
	return api.Note{Number: number, Day: day, Signed: api.KnownYes, Drawing: drawing, Letter: letter, From: from, To: to}
}

// Cancels returns a signed note that cancels another one for some machines.
func Cancels(number, day, other, from, to int) api.Note {
	return api.Note{Number: number, Day: day, Signed: api.KnownYes, Cancels: other, From: from, To: to}
}

// As returns a note of which so much is known.
func As(known uint8, x api.Note) api.Note {
	x.Signed = known
	return x
}

// UsingUp returns a note by which old pieces are used up.
func UsingUp(x api.Note) api.Note {
	x.UseUp = true
	return x
}

// Noted returns notes with the register of the examples.
func Noted(l ...api.Note) api.Notes {
	return api.Notes{Register: Example(), Notes: l}
}

// ExampleNotes returns the notes of the examples of layer 3, and of layers above it.
func ExampleNotes() api.Notes {
	return Noted(
		Gives(101, 100, 30, 2, 5, 999),
		As(api.KnownOpen, Gives(102, 200, 10, 2, 8, 20)),
		Cancels(103, 300, 101, 10, 12),
		Gives(104, 400, 30, 1, 15, 15))
}

// Lettered returns a register of a part with so many letters.
func Lettered(drawing, last int) api.Register {
	var r api.Register
	for k := range last {
		r.Issues = append(r.Issues, Part(drawing, k+1))
	}
	return r
}

// CloneNotes returns notes in memory of their own.
func CloneNotes(n api.Notes) api.Notes {
	return api.Notes{Register: Clone(n.Register), Notes: slices.Clone(n.Notes)}
}

// RoomyNotes returns notes all of whose lists have memory behind their ends.
func RoomyNotes(n api.Notes, number int) api.Notes {
	behind := As(api.KnownOpen, Gives(number, number, number, number, 1, api.MaxMachine))
	return api.Notes{Register: RoomyRegister(n.Register, number), Notes: Roomy(n.Notes, behind)}
}

// EmptyNotes returns notes none of whose lists is nil.
func EmptyNotes(n api.Notes) api.Notes {
	n = CloneNotes(n)
	n.Notes = append([]api.Note{}, n.Notes...)
	for i, x := range n.Register.Issues {
		n.Register.Issues[i].Items = append([]api.Item{}, x.Items...)
		n.Register.Issues[i].Dims = append([]api.Dim{}, x.Dims...)
	}
	return n
}

// Whole returns notes with all that is in the memory behind the ends of their lists.
func Whole(n api.Notes) api.Notes {
	n = api.Notes{Register: api.Register{Issues: WholeList(n.Register.Issues)}, Notes: WholeList(n.Notes)}
	for i, x := range n.Register.Issues {
		n.Register.Issues[i].Items, n.Register.Issues[i].Dims = WholeList(x.Items), WholeList(x.Dims)
	}
	return n
}

// ScribbleNotes writes over all lists of notes, from the last one on, and returns the issues of which a list had been written over with another one.
func ScribbleNotes(n, want api.Notes) []api.Issue {
	Scribble(n.Notes, As(9, Gives(-1, -1, -1, -1, -1, -1)))
	return ScribbleRegister(n.Register, want.Register)
}

// WholeList returns a list with all that is in the memory behind its end.
func WholeList[T any](l []T) []T {
	return slices.Clone(l[:cap(l)])
}

// DrawingsOf returns the drawings of the register.
func DrawingsOf(n api.Notes) []int {
	var l []int
	for _, x := range n.Register.Issues {
		if x.Letter == 1 {
			l = append(l, x.Drawing)
		}
	}
	return l
}

// OpenOf returns the Numbers of all open notes, in increasing order.
func OpenOf(n api.Notes) []int {
	var l []int
	for _, x := range n.Notes {
		if x.Signed == api.KnownOpen {
			l = append(l, x.Number)
		}
	}
	slices.Sort(l)
	return l
}

// TruthsOf returns all truths, as lists of Numbers.
func TruthsOf(n api.Notes) [][]int {
	l := [][]int{nil}
	for _, number := range OpenOf(n) {
		for _, t := range l {
			l = append(l, append(slices.Clone(t), number))
		}
	}
	return l
}

// MachinesOf returns machines, so that all others are as one of them is: all next to an end of a note.
func MachinesOf(n api.Notes) []int {
	l := []int{1, api.MaxMachine}
	for _, x := range n.Notes {
		l = append(l, x.From-1, x.From, x.To, x.To+1)
	}
	l = slices.DeleteFunc(l, func(m int) bool { return m < 1 || m > api.MaxMachine })
	slices.Sort(l)
	return slices.Compact(l)
}

// InOrder compares the places of two notes in a list.
func InOrder(x, y api.Note) int {
	return cmp.Or(cmp.Compare(x.Day, y.Day), cmp.Compare(x.Number, y.Number))
}
