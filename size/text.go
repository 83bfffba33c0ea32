package size

import (
	"strconv"
	"strings"

	"blueline/api"
)

// wrongText is the panic of a text that is none of a size.
type wrongText struct{}

// Write returns how a size is written in a unit (P1.2).
func Write(d api.Dim, unit uint8) (string, api.Errno) {
	if e := Check(d); e != api.OK {
		return "", e
	}
	s, e := scaleOf(unit)
	if e != api.OK {
		return "", e
	}
	w := draft{d, s}
	if !w.exact() {
		return "", api.ErrStep
	}
	return w.text(), api.OK
}

// Read returns the size that is written, and its unit (P1.2).
func Read(s string) (d api.Dim, unit uint8, e api.Errno) {
	defer func() {
		switch recover().(type) {
		case nil:
		case wrongText, error: // An error is a panic of Go's own: no call may panic (R7).
			d, unit, e = api.Dim{}, 0, api.ErrText
		}
	}()
	w := read(s)
	return w.Dim, w.unit, api.OK
}

// read takes more texts than are written, and finds the others out by writing the size again: so no two texts are one size in a unit.
func read(text string) draft {
	const words = 4
	l := strings.SplitN(text, " ", words) // A word too many makes the last one none of a unit.
	if len(l) < words {
		panic(wrongText{})
	}
	all := scales()
	s, found := first(all[:], func(s scale) bool { return s.mark == l[words-1] })
	if !found {
		panic(wrongText{})
	}
	nominal, lower, upper := s.number(l[0]), s.number(l[1]), s.number(l[2])
	w := draft{api.Dim{Nominal: nominal, Lower: nominal + lower, Upper: nominal + upper}, s}
	if Check(w.Dim) != api.OK || w.text() != text {
		panic(wrongText{})
	}
	return w
}

// number returns the number of a word, wherever its signs and points are. Of one that is too great it may read a digit too many, but no more, so that nothing overflows.
func (s scale) number(word string) int {
	most := api.MaxSize / s.step
	steps, wrong := 0, false
word:
	for i := range len(word) {
		switch c := word[i]; {
		case c == '+' || c == '-' || c == '.':
		case c < '0' || c > '9' || steps > most:
			wrong = true
			break word
		default:
			steps = steps*10 + int(c-'0')
		}
	}
	if wrong {
		panic(wrongText{})
	}
	if strings.HasPrefix(word, "-") {
		return -steps * s.step
	}
	return steps * s.step
}

// text returns how a size that is exact is written.
func (w draft) text() string {
	return w.decimal(w.Nominal) + " " + w.signed(w.Lower-w.Nominal) + " " + w.signed(w.Upper-w.Nominal) + " " + w.mark
}

func (s scale) signed(n int) string {
	if n < 0 {
		return "-" + s.decimal(-n)
	}
	return "+" + s.decimal(n)
}

func (s scale) decimal(n int) string {
	digits := strconv.Itoa(n / s.step)
	for range s.places + 1 - len(digits) {
		digits = "0" + digits
	}
	point := len(digits) - s.places
	return digits[:point] + "." + digits[point:]
}
