package spare

import (
	"iter"

	"blueline/api"
	"blueline/every"
)

// kit returns the fewest issues of the drawing such that in each state of each machine a piece of one of them fits: of several such lists the first one.
func (w desk) kit() []api.Ref {
	letters, _ := every.Best(w.kits(), func(letters []int) int { return -len(letters) })
	var l []api.Ref
	for _, letter := range letters {
		l = append(l, api.Ref{Drawing: w.drawing, Letter: letter})
	}
	return l
}

// kits yields all lists of letters such that in each state of each machine a piece of one of them fits.
func (w desk) kits() iter.Seq[[]int] {
	fitting := w.fittingLetters()
	return func(yield func([]int) bool) {
	list:
		for bits := range 1 << len(w.letters) {
			for _, some := range fitting {
				if some&bits == 0 {
					continue list
				}
			}
			if !yield(w.lettersIn(bits)) {
				return
			}
		}
	}
}

// fittingLetters returns for each state of each machine the letters of the drawing whose pieces fit, as bits.
func (w desk) fittingLetters() []int {
	var l []int
	for _, machine := range w.Built.Machines {
		q := w.inquiry(machine)
		for _, s := range q.states {
			bits := 0
			for _, x := range q.pieces(s) {
				if x.Drawing == w.drawing {
					bits |= 1 << (x.Letter - 1)
				}
			}
			l = append(l, bits)
		}
	}
	return l
}

// lettersIn returns letters that are told as bits, in increasing order.
func (w desk) lettersIn(bits int) []int {
	var l []int
	for _, letter := range w.letters {
		if bits>>(letter-1)&1 == 1 {
			l = append(l, letter)
		}
	}
	return l
}
