package trial

import (
	"slices"

	"blueline/api"
)

// Dice is by what things are chosen, such as a *rand.Rand of a test.
type Dice interface {
	Intn(n int) int
	Perm(n int) []int
	Shuffle(n int, swap func(i, k int))
}

// SomeRegister returns a register with several letters, of drawings that need each other, or do not.
func SomeRegister(dice Dice) api.Register {
	switch dice.Intn(4) {
	case 0:
		return Example()
	case 1:
		return Lettered(1+dice.Intn(api.MaxId), 1+dice.Intn(api.MaxLetter))
	case 2:
		return Register(append(Lettered(3, 5).Issues, Lettered(5, 2).Issues...)...)
	}
	return Register(
		Assembly(2, 1, 4, 1, 6, 2), Assembly(2, 2, 4, 2), Assembly(2, 3, 6, 1, 8, 3),
		Assembly(4, 1, 6, 3, 8, 1), Assembly(4, 2, 8, 2, 9, 1),
		Part(6, 1), Part(6, 2), Part(6, 3), Part(8, 1), Part(8, 2), Standard(9, 1))
}

// someNote returns a note with a Number: for few machines, often, and of an issue of the register, mostly.
func someNote(dice Dice, n api.Notes, number int) api.Note {
	top := []int{6, 20, api.MaxMachine}[dice.Intn(3)]
	x := api.Note{Number: number, Day: dice.Intn(4), Signed: api.KnownYes, From: 1 + dice.Intn(top)}
	if dice.Intn(2) == 0 && len(OpenOf(n)) < api.MaxOpen {
		x.Signed = api.KnownOpen
	} else if dice.Intn(8) == 0 {
		x.Signed = api.KnownNo
	}
	x.To = x.From + dice.Intn(top+1-x.From)
	if dice.Intn(3) == 0 {
		x.To = api.MaxMachine
	}
	if issue := n.Register.Issues[dice.Intn(len(n.Register.Issues))]; dice.Intn(6) > 0 {
		x.Drawing, x.Letter = issue.Drawing, issue.Letter
	}
	if x.Letter >= 2 {
		x.UseUp, x.Ways = dice.Intn(2) == 0, uint8(dice.Intn(4))
	}
	return x
}

// SomeNotes returns any valid notes, with many that cancel, and contradict, each other.
func SomeNotes(dice Dice) api.Notes {
	n := api.Notes{Register: SomeRegister(dice)}
	top := []int{api.MaxNotes, 30, api.MaxId}[dice.Intn(3)]
	for _, number := range dice.Perm(top)[:min(dice.Intn(2*api.MaxNotes), api.MaxNotes)] {
		x := someNote(dice, n, number+1)
		n.Notes = append(n.Notes, x)
	}
	slices.SortFunc(n.Notes, InOrder)
	often := []int{2, 4, 20}[dice.Intn(3)]
	for i := range n.Notes {
		x := &n.Notes[i]
		if i > 0 && (x.Drawing == 0 || dice.Intn(often) == 0) {
			x.Cancels = n.Notes[dice.Intn(i)].Number
		} else if x.Drawing == 0 {
			x.Drawing, x.Letter = n.Register.Issues[0].Drawing, 1
		}
	}
	return n
}

// SomeTruth returns one of the truths.
func SomeTruth(dice Dice, n api.Notes) []int {
	l := TruthsOf(n)
	return l[dice.Intn(len(l))]
}
