package stock

import (
	"slices"

	"blueline/api"
	"blueline/every"
	"blueline/note"
	"blueline/sheet"
)

// store is a stock at work, in a truth if it has claims.
type store struct {
	api.Stock
	claims []claim // of each machine
}

// claim is what a machine needs, which letter it has of the drawing, and the letters of which it may get pieces, in increasing order.
type claim struct {
	needs, letter int
	may           []int
}

// inTruth returns a stock as it is worked on in the truth that a list tells: Check's error; ErrTruth if it tells none.
func inTruth(s api.Stock, signed []int) (store, api.Errno) {
	w, e := lay(s)
	if e != api.OK {
		return store{}, e
	}
	return w.in(signed)
}

// in returns a stock in the truth that a list tells: ErrTruth if it tells none.
func (w store) in(signed []int) (store, api.Errno) {
	if _, e := note.Force(w.Notes, signed, 1); e != api.OK { // There may be no machine for which the list is looked at otherwise.
		return store{}, e
	}
	for _, machine := range w.Machines {
		c, e := w.claim(signed, machine)
		if e != api.OK {
			return store{}, e
		}
		w.claims = append(w.claims, c)
	}
	return w, api.OK
}

// claim returns what a machine needs, and may get.
func (w store) claim(signed []int, machine int) (claim, api.Errno) {
	letters, e := note.Letters(w.Notes, signed, machine)
	if e != api.OK {
		return claim{}, e
	}
	parts, e := sheet.Explode(w.Notes.Register, letters, w.Of)
	if e != api.OK {
		return claim{}, e
	}
	number, e := note.By(w.Notes, signed, w.Drawing, machine)
	if e != api.OK {
		return claim{}, e
	}
	by := w.noteOf(number)
	c := claim{letter: by.Letter, may: []int{by.Letter}}
	if by.UseUp {
		c.may = []int{by.Letter - 1, by.Letter}
	}
	for _, it := range parts {
		if it.Drawing == w.Drawing {
			c.needs = it.Count
		}
	}
	return c, api.OK
}

// noteOf returns the note with a Number, or one of A if there is none.
func (w store) noteOf(number int) api.Note {
	for _, x := range w.Notes.Notes {
		if x.Number == number {
			return x
		}
	}
	return api.Note{Letter: 1}
}

// surplus returns how many pieces with some letters there are, less what all machines need that may get any of them.
func (w store) surplus(letters []int) int {
	n := 0
	for _, letter := range letters {
		n += w.Piles[letter-1]
	}
	for _, c := range w.claims {
		if slices.ContainsFunc(c.may, func(letter int) bool { return slices.Contains(letters, letter) }) {
			n -= c.needs
		}
	}
	return n
}

// proof returns the letters with the greatest surplus, and this one: none if it is not above 0, as no letters have a surplus of 0.
func (w store) proof() ([]int, int) {
	var letters []int
	for l := range len(w.Piles) {
		letters = append(letters, l+1)
	}
	return every.Best(every.Part(letters), w.surplus)
}

// scrap returns how many pieces are scrapped at least: just so many have no place, whoever gets the others (P4.6).
func (w store) scrap() int {
	_, surplus := w.proof()
	return surplus
}

// scrapIn returns how many pieces are scrapped at least in a truth.
func (w store) scrapIn(signed []int) int {
	in, _ := w.in(signed)
	return in.scrap()
}
