package trial

import (
	"slices"

	"blueline/api"
)

// Heap returns a heap of an issue.
func Heap(drawing, letter, lo, hi int) api.Heap {
	return api.Heap{Drawing: drawing, Letter: letter, Count: api.Span{Lo: lo, Hi: hi}}
}

// Report returns a report of a kind.
func Report(kind uint8, number, machine, drawing, letter int) api.Report {
	return api.Report{Number: number, Machine: machine, Drawing: drawing, Letter: letter, Kind: kind}
}

// Has returns a report that a machine has a piece of an issue.
func Has(number, machine, drawing, letter int) api.Report {
	return Report(api.ReportHas, number, machine, drawing, letter)
}

// All returns a report that all of a machine's pieces of a drawing are of an issue.
func All(number, machine, drawing, letter int) api.Report {
	return Report(api.ReportAll, number, machine, drawing, letter)
}

// None returns a report that a machine has no piece of an issue.
func None(number, machine, drawing, letter int) api.Report {
	return Report(api.ReportNone, number, machine, drawing, letter)
}

// PartsOf returns all issues of parts and standard parts.
func PartsOf(n api.Notes) []api.Ref {
	var l []api.Ref
	for _, x := range n.Register.Issues {
		if x.Kind != api.KindAssembly {
			l = append(l, api.Ref{Drawing: x.Drawing, Letter: x.Letter})
		}
	}
	return l
}

// someMachines returns machines, few of them far away, in increasing order.
func someMachines(dice Dice, n api.Notes) []int {
	l := MachinesOf(n)
	for range 6 {
		l = append(l, 1+dice.Intn(25))
	}
	dice.Shuffle(len(l), func(i, k int) { l[i], l[k] = l[k], l[i] })
	l = l[:dice.Intn(min(len(l), api.MaxBuilds)+1)]
	slices.Sort(l)
	return slices.Compact(l)
}

// someHeaps returns heaps of some issues that have a next one; the more there are, the less far their numbers go.
func someHeaps(dice Dice, n api.Notes) []api.Heap {
	all := PartsOf(n)
	parts := slices.DeleteFunc(slices.Clone(all), func(x api.Ref) bool {
		return !slices.Contains(all, api.Ref{Drawing: x.Drawing, Letter: x.Letter + 1})
	})
	dice.Shuffle(len(parts), func(i, k int) { parts[i], parts[k] = parts[k], parts[i] })
	parts = parts[:min(len(parts), dice.Intn(api.MaxHeaps+1))]
	far := []int{0, 12, 4, 2, 2}[len(parts)]
	var l []api.Heap
	for _, x := range parts {
		lo := dice.Intn(1 + dice.Intn(20))
		l = append(l, Heap(x.Drawing, x.Letter, lo, lo+dice.Intn(far+1)))
	}
	return l
}

// SomeReport returns any valid report of machines, of which there are some.
func SomeReport(dice Dice, b api.Built, number int) api.Report {
	x := PartsOf(b.Notes)[dice.Intn(len(PartsOf(b.Notes)))]
	return Report(uint8(1+dice.Intn(3)), number, b.Machines[dice.Intn(len(b.Machines))], x.Drawing, x.Letter)
}

// SomeBuilt returns any valid machines without reports.
func SomeBuilt(dice Dice) api.Built {
	b := api.Built{Notes: SomeNotes(dice)}
	for i, x := range b.Notes.Notes {
		b.Notes.Notes[i].UseUp = x.Letter >= 2 && dice.Intn(4) > 0
	}
	drawings := DrawingsOf(b.Notes)
	b.Of = drawings[0]
	if dice.Intn(4) == 0 {
		b.Of = drawings[dice.Intn(len(drawings))]
	}
	b.Machines, b.Heaps = someMachines(dice, b.Notes), someHeaps(dice, b.Notes)
	return b
}

// SomeNumbers returns so many Numbers, in increasing order, no one twice.
func SomeNumbers(dice Dice, count int) []int {
	l := dice.Perm([]int{count, 2 * count, api.MaxId}[dice.Intn(3)])[:count]
	for i := range l {
		l[i]++
	}
	slices.Sort(l)
	return l
}

// CloneBuilt returns machines in memory of their own.
func CloneBuilt(b api.Built) api.Built {
	b.Notes, b.Machines, b.Heaps, b.Reports = CloneNotes(b.Notes), slices.Clone(b.Machines), slices.Clone(b.Heaps), slices.Clone(b.Reports)
	return b
}

// RoomyBuilt returns machines all of whose lists have memory behind their ends.
func RoomyBuilt(b api.Built, number int) api.Built {
	return api.Built{
		Notes: RoomyNotes(b.Notes, number), Of: b.Of, Machines: Roomy(b.Machines, number),
		Heaps: Roomy(b.Heaps, Heap(number, number, number, number)), Reports: Roomy(b.Reports, Has(number, number, number, number)),
	}
}

// EmptyBuilt returns machines none of whose lists is nil.
func EmptyBuilt(b api.Built) api.Built {
	b.Notes = EmptyNotes(b.Notes)
	b.Machines, b.Heaps, b.Reports = append([]int{}, b.Machines...), append([]api.Heap{}, b.Heaps...), append([]api.Report{}, b.Reports...)
	return b
}

// WholeBuilt returns machines with all that is in the memory behind the ends of their lists.
func WholeBuilt(b api.Built) api.Built {
	return api.Built{Notes: Whole(b.Notes), Of: b.Of, Machines: WholeList(b.Machines), Heaps: WholeList(b.Heaps), Reports: WholeList(b.Reports)}
}
