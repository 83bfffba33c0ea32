package built

import (
	"slices"

	"blueline/api"
)

// right reports whether machines are valid, whose Notes are.
func (w desk) right() bool {
	return w.isForDrawing() && w.areMachines() && w.areHeaps() && w.areReports()
}

func (w desk) isForDrawing() bool {
	return slices.Contains(w.drawings, w.Of)
}

func (w desk) areMachines() bool {
	return len(w.Machines) <= api.MaxBuilds && areRising(api.MaxMachine, w.Machines)
}

func (w desk) areHeaps() bool {
	if len(w.Heaps) > api.MaxHeaps {
		return false
	}
	for i, h := range w.Heaps {
		isAgain := slices.ContainsFunc(w.Heaps[:i], func(other api.Heap) bool { return issueOf(other) == issueOf(h) })
		if isAgain || !w.hasParts(issueOf(h), nextTo(h)) {
			return false
		}
		if !within(api.Span{Lo: 0, Hi: api.MaxPile}, h.Count.Lo, h.Count.Hi) || h.Count.Lo > h.Count.Hi {
			return false
		}
	}
	return true
}

func (w desk) areReports() bool {
	if len(w.Reports) > api.MaxReports {
		return false
	}
	var numbers []int
	for _, r := range w.Reports {
		if !slices.Contains(w.Machines, r.Machine) || !w.hasParts(told(r)) || !within(api.Span{Lo: 1, Hi: len(kinds())}, int(r.Kind)) {
			return false
		}
		numbers = append(numbers, r.Number)
	}
	return areRising(api.MaxId, numbers)
}

// hasParts reports whether the register has all of some issues, of parts or standard parts.
func (w desk) hasParts(issues ...api.Ref) bool {
	return !slices.ContainsFunc(issues, func(x api.Ref) bool { return !slices.Contains(w.parts, x) })
}

// hasHeap reports whether there is a heap.
func (w desk) hasHeap(heap int) bool {
	return within(api.Span{Lo: 0, Hi: len(w.Heaps) - 1}, heap)
}

// areRising reports whether numbers are from 1 to a greatest one, in increasing order, no one twice.
func areRising(most int, numbers []int) bool {
	last := 0
	for _, n := range numbers {
		if !within(api.Span{Lo: last + 1, Hi: most}, n) {
			return false
		}
		last = n
	}
	return true
}

// within reports whether all numbers are in a span.
func within(s api.Span, numbers ...int) bool {
	for _, n := range numbers {
		if n < s.Lo || n > s.Hi {
			return false
		}
	}
	return true
}
