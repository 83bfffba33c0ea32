package spare

import (
	"cmp"
	"slices"

	"blueline/api"
)

// kind is a kind of questions: all of them, in order, and whether one is true of a state.
type kind struct {
	questions func(w desk) []api.Question
	isTrue    func(x api.Question, s api.State) bool
}

func kinds() [2]kind {
	return [2]kind{
		{aboutNotes, func(x api.Question, s api.State) bool { return slices.Contains(s.Signed, x.Note) }},
		{aboutLetters, func(x api.Question, s api.State) bool { return s.Issue.Letter == x.Letter }},
	}
}

// aboutNotes returns for each open note the question whether it was signed.
func aboutNotes(w desk) []api.Question {
	var l []api.Question
	for _, x := range w.Built.Notes.Notes {
		if x.Signed == api.KnownOpen {
			l = append(l, api.Question{Note: x.Number})
		}
	}
	slices.SortFunc(l, func(x, y api.Question) int { return cmp.Compare(x.Note, y.Note) })
	return l
}

// aboutLetters returns for each issue of the drawing the question whether the broken piece has its letter.
func aboutLetters(w desk) []api.Question {
	var l []api.Question
	for _, letter := range w.letters {
		l = append(l, api.Question{Letter: letter})
	}
	return l
}

// asked is a question, and the states of which it is true.
type asked struct {
	api.Question
	yes set
}

// allAsked returns all questions, in order.
func (q inquiry) allAsked() []asked {
	var l []asked
	for _, k := range kinds() {
		for _, x := range k.questions(q.desk) {
			a := asked{Question: x}
			for i, s := range q.states {
				if k.isTrue(x, s) {
					a.yes |= 1 << i
				}
			}
			l = append(l, a)
		}
	}
	return l
}

// left returns the states that are left by answers: ErrAnswer unless these are valid.
func (q inquiry) left(l []api.Answer) (set, api.Errno) {
	if !within(api.Span{Lo: 0, Hi: api.MaxAnswers}, len(l)) {
		return 0, api.ErrAnswer
	}
	left := q.all()
	for _, a := range l {
		i := slices.IndexFunc(q.questions, func(x asked) bool { return x.Question == a.Question })
		if i < 0 {
			return 0, api.ErrAnswer
		}
		if a.Yes {
			left &= q.questions[i].yes
		} else {
			left &^= q.questions[i].yes
		}
	}
	return left, api.OK
}

// advice is how many questions states need, and the best one that parts them if they need any.
type advice struct {
	need     int
	question api.Question
}

// advise returns the advice for some states.
func (q inquiry) advise(some set) advice {
	fits := q.fits()
	known := map[set]advice{}
	var on func(some set) advice
	on = func(some set) advice {
		if a, isKnown := known[some]; isKnown {
			return a
		}
		var a advice
		if !haveSpare(fits, some) { // So there are two states at least, and some question parts them.
			best, need := least(q.parting(some), func(x asked) int { return max(on(some&x.yes).need, on(some&^x.yes).need) })
			a = advice{need: need + 1, question: best.Question}
		}
		known[some] = a
		return a
	}
	return on(some)
}

// haveSpare reports whether there is a piece that fits in all of some states.
func haveSpare(fits map[api.Ref]set, some set) bool {
	for _, in := range fits {
		if some&^in == 0 {
			return true
		}
	}
	return false
}

// parting returns the questions that part some states, in order.
func (q inquiry) parting(some set) []asked {
	return slices.DeleteFunc(slices.Clone(q.questions), func(x asked) bool { return some&x.yes == 0 || some&^x.yes == 0 })
}

// least returns the first thing of a list of which a number is the least, and this number.
func least[T any](l []T, number func(x T) int) (T, int) {
	var first T
	fewest := 0
	for i, x := range l {
		if n := number(x); i == 0 || n < fewest {
			first, fewest = x, n
		}
	}
	return first, fewest
}
