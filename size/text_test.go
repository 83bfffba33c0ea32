package size_test

import (
	"fmt"
	"math/rand"
	"strings"
	"testing"

	"blueline/api"
	"blueline/size"
)

// written is how a size is written, by fmt; of one that is exact.
func written(d api.Dim, unit uint8) string {
	number := func(n int) string {
		s := n / stepOf(unit)
		if unit == mm {
			return fmt.Sprintf("%d.%03d", s/1000, s%1000)
		}
		return fmt.Sprintf("%d.%04d", s/10000, s%10000)
	}
	signed := func(n int) string {
		if n < 0 {
			return "-" + number(-n)
		}
		return "+" + number(n)
	}
	return number(d.Nominal) + " " + signed(d.Lower-d.Nominal) + " " + signed(d.Upper-d.Nominal) + " " + map[uint8]string{mm: "mm", inch: "in"}[unit]
}

// P1.2: the examples of the chapter, and the ends.
func TestWrite(t *testing.T) {
	for _, x := range []struct {
		d    api.Dim
		unit uint8
		want string
	}{
		{exampleD, mm, "20.000 +0.000 +0.021 mm"}, {exampleS, mm, "20.000 -0.020 -0.007 mm"}, {exampleP, mm, "20.000 +0.015 +0.028 mm"}, {dim(1999996, 2000250, 2002028), inch, "0.7874 +0.0001 +0.0008 in"}, {dim(2000000, 2000300, 2002000), mm, "20.000 +0.003 +0.020 mm"},
		{same(0), mm, "0.000 +0.000 +0.000 mm"}, {same(0), inch, "0.0000 +0.0000 +0.0000 in"}, {same(100), mm, "0.001 +0.000 +0.000 mm"}, {same(254), inch, "0.0001 +0.0000 +0.0000 in"}, {same(99900), mm, "0.999 +0.000 +0.000 mm"}, {same(100000), mm, "1.000 +0.000 +0.000 mm"}, {same(2540000), mm, "25.400 +0.000 +0.000 mm"}, {same(2540000), inch, "1.0000 +0.0000 +0.0000 in"}, {same(2539746), inch, "0.9999 +0.0000 +0.0000 in"},
		{same(most), mm, "10000.000 +0.000 +0.000 mm"}, {same(999999778), inch, "393.7007 +0.0000 +0.0000 in"}, {dim(0, most, most), mm, "0.000 +10000.000 +10000.000 mm"}, {dim(most, 0, 0), mm, "10000.000 -10000.000 -10000.000 mm"}, {dim(most, 0, most), mm, "10000.000 -10000.000 +0.000 mm"}, {dim(0, 0, 999999778), inch, "0.0000 +0.0000 +393.7007 in"}, {dim(999999778, 0, 254), inch, "393.7007 -393.7007 -393.7006 in"},
		{dim(100, 0, 200), mm, "0.001 -0.001 +0.001 mm"}, {dim(254, 0, 508), inch, "0.0001 -0.0001 +0.0001 in"}, {dim(200, 300, 400), mm, "0.002 +0.001 +0.002 mm"}, {dim(200, 0, 100), mm, "0.002 -0.002 -0.001 mm"}, {dim(123456700, 123400000, 123500000), mm, "1234.567 -0.567 +0.433 mm"},
	} {
		if s, e := size.Write(x.d, x.unit); s != x.want || e != api.OK {
			t.Error(x.d, s, e)
		}
		if d, unit, e := size.Read(x.want); d != x.d || unit != x.unit || e != api.OK {
			t.Error(x.want, d, unit, e)
		}
	}
}

// P1.2, R1: ErrUnit is ahead of ErrStep, and ErrStep for whichever number is no multiple.
func TestWriteErrors(t *testing.T) {
	for _, x := range []struct {
		d    api.Dim
		unit uint8
		e    api.Errno
	}{
		{exampleD, 0, api.ErrUnit}, {exampleD, 3, api.ErrUnit}, {exampleD, 255, api.ErrUnit}, {same(1), 0, api.ErrUnit}, {same(12700), 3, api.ErrUnit}, {same(1), mm, api.ErrStep}, {same(1), inch, api.ErrStep}, {exampleD, inch, api.ErrStep},
		{dim(150, 100, 200), mm, api.ErrStep}, {dim(100, 50, 200), mm, api.ErrStep}, {dim(100, 100, 250), mm, api.ErrStep}, {dim(100, 254, 508), inch, api.ErrStep}, {dim(254, 100, 508), inch, api.ErrStep}, {dim(254, 254, 600), inch, api.ErrStep}, {dim(50, 150, 250), mm, api.ErrStep}, {same(most), inch, api.ErrStep}, {same(254), mm, api.ErrStep},
	} {
		if s, e := size.Write(x.d, x.unit); s != "" || e != x.e {
			t.Error(x.d, x.unit, s, e)
		}
	}
}

// P1.2, P1.12: all that is exact is written as told, and read as it was; all else is ErrStep.
func TestWrittenIsRead(t *testing.T) {
	r := rand.New(rand.NewSource(12))
	for range 20000 {
		d := someDim(r)
		exact, _ := size.Exact(d)
		for _, unit := range []uint8{mm, inch} {
			s, e := size.Write(d, unit)
			if exact&unit == 0 {
				if s != "" || e != api.ErrStep {
					t.Fatal(d, unit, s, e)
				}
				continue
			}
			if s != written(d, unit) || e != api.OK {
				t.Fatal(d, unit, s, e)
			}
			if x, u, e := size.Read(s); x != d || u != unit || e != api.OK {
				t.Fatal(s, x, u, e)
			}
		}
	}
}

// wrongTexts returns texts that no size is written as.
func wrongTexts() []string {
	l := []string{
		"", " ", "   ", "mm", "20.000", "20.000 mm", "20.000 +0.000 mm", "20.000 +0.000 +0.021", "20.000 +0.000 +0.021 ", "20.000 +0.000 +0.021 mm ", " 20.000 +0.000 +0.021 mm", "20.000 +0.000 +0.021 mm mm", "20.000 +0.000 +0.021 +0.022 mm", "20.000  +0.000 +0.021 mm", "20.000 +0.000  +0.021 mm", "20.000 +0.000 +0.021  mm", "20.000\t+0.000 +0.021 mm", "20.000 +0.000 +0.021 mm\n", "20.000 +0.000 +0.021\nmm",
		"20.000 +0.000 +0.021 MM", "20.000 +0.000 +0.021 Mm", "20.000 +0.000 +0.021 m", "20.000 +0.000 +0.021 cm", "20.000 +0.000 +0.021 inch", "20.000 +0.000 +0.021mm", "mm 20.000 +0.000 +0.021", "1.0000 +0.0000 +0.0000 IN", "1.0000 +0.0000 +0.0000 i",
		"20.000 +0.000 +0.021 in", "0.7874 +0.0001 +0.0008 mm", "20.0000 +0.000 +0.021 mm", "20.000 +0.0000 +0.021 mm", "20.000 +0.000 +0.0210 mm", "20.00 +0.000 +0.021 mm", "20.000 +0.00 +0.021 mm", "20.000 +0.000 +0.02 mm", "1.000 +0.0000 +0.0000 in", "1.00000 +0.0000 +0.0000 in", "1.0000 +0.000 +0.0000 in", "1.0000 +0.0000 +0.00000 in",
		"20 +0.000 +0.021 mm", "20. +0.000 +0.021 mm", "20000 +0.000 +0.021 mm", "20.000 +0 +0.021 mm", "20,000 +0.000 +0.021 mm", "20..000 +0.000 +0.021 mm", "20.0.00 +0.000 +0.021 mm", "2.0000 +0.000 +0.021 mm", "200.00 +0.000 +0.021 mm", ".200 +0.000 +0.021 mm", ".000 +0.000 +0.021 mm", "20.000 +.000 +0.021 mm", "20.000 +0.000 +.021 mm", "20.000. +0.000 +0.021 mm", "20.000 +0.000. +0.021 mm", ". +0.000 +0.021 mm", "20.000 + +0.021 mm", "20.000 +. +0.021 mm", "20.000 - +0.021 mm",
		"020.000 +0.000 +0.021 mm", "00.000 +0.000 +0.021 mm", "20.000 +00.000 +0.021 mm", "20.000 +0.000 +00.021 mm", "20.000 -00.001 +0.021 mm", "01.0000 +0.0000 +0.0000 in", "0000000000000000000000020.000 +0.000 +0.021 mm",
		"+20.000 +0.000 +0.021 mm", "-20.000 +0.000 +0.021 mm", "-0.000 +0.000 +0.000 mm", "+0.000 +0.000 +0.000 mm", "20.000 0.000 +0.021 mm", "20.000 +0.000 0.021 mm", "20.000 -0.000 +0.021 mm", "20.000 -0.001 -0.000 mm", "20.000 ++0.000 +0.021 mm", "20.000 +-0.001 +0.021 mm", "20.000 --0.001 +0.021 mm", "20.000 0.000+ +0.021 mm", "20.000 0.001- +0.021 mm", "20.000 +0.-001 +0.021 mm", "1.0000 -0.0000 +0.0000 in", "1.0000 +0.0000 -0.0000 in",
		"20.000 +0.021 +0.000 mm", "20.000 -0.001 -0.002 mm", "20.000 +0.000 -0.001 mm", "20.000 -20.001 +0.000 mm", "20.000 -20.001 -20.001 mm", "0.000 -0.001 +0.000 mm", "10000.000 +0.000 +0.001 mm", "10000.000 +0.001 +0.001 mm", "10000.001 -0.001 -0.001 mm", "0.000 +0.000 +10000.001 mm", "9999.999 -0.001 +0.002 mm", "99999.000 -99000.000 -99000.000 mm", "1000000.000 +0.000 +0.000 mm", "393.7008 +0.0000 +0.0000 in", "393.7008 -0.0001 -0.0001 in", "393.7007 +0.0000 +0.0001 in", "0.0000 -0.0001 +0.0000 in",
		"20.000 +0.000 +0.0a1 mm", "2o.000 +0.000 +0.021 mm", "0x14.000 +0.000 +0.021 mm", "20.0e0 +0.000 +0.021 mm", "2_0.000 +0.000 +0.021 mm", "20.000 +0.000 +0.021 mm\x00", "20.000 +0.000 +0.02\x00 mm", "20.000 +0.000 +0.02\xff mm", "2\u0660.000 +0.000 +0.021 mm", "20\u00b7000 +0.000 +0.021 mm", "20.000 \u22120.001 +0.021 mm", "20.000\u00a0+0.000 +0.021 mm", "NaN +0.000 +0.021 mm", "20.000 +Inf +0.021 mm", "20.000 /0.000 +0.021 mm", "20.000 +0.00: +0.021 mm",
		"21474856.480 +0.000 +0.000 mm", "42949692.960 +0.000 +0.000 mm", "184467440737095536.160 +0.000 +0.000 mm", "18446744073709571.616 +0.000 +0.000 mm", "99999999999999999999.000 +0.000 +0.000 mm", "20.000 +99999999999999999999.000 +99999999999999999999.000 mm", "20.000 -99999999999999999999.000 +0.000 mm", "20.000 +18446744073709551.616 +18446744073709551.616 mm", "1844674407370955.1616 +0.0000 +0.0000 in",
		"10000.000 -9223372036854775.808 +0.000 mm",
	}
	for _, n := range []int{5000, 300000} {
		l = append(l, strings.Repeat("0", n), strings.Repeat(" ", n), strings.Repeat("9", n)+".000 +0.000 +0.000 mm", strings.Repeat("0", n)+".000 +0.000 +0.000 mm", "20.000 +0.000 +0."+strings.Repeat("0", n)+" mm", strings.Repeat("20.000 +0.000 +0.021 mm ", n))
	}
	return l
}

// P1.2: a text that is none leads to ErrText, and to nothing else.
func TestReadErrors(t *testing.T) {
	for _, s := range wrongTexts() {
		if d, unit, e := size.Read(s); d != (api.Dim{}) || unit != 0 || e != api.ErrText {
			t.Errorf("%.60q: %v %v %v", s, d, unit, e)
		}
	}
}

// P1.12: whichever byte is another one, or missing, or more, a text that is read still is written as it is.
func TestReadIsWritten(t *testing.T) {
	read := 0
	try := func(s string) {
		d, unit, e := size.Read(s)
		if e != api.OK {
			if d != (api.Dim{}) || unit != 0 || e != api.ErrText {
				t.Errorf("%q: %v %v %v", s, d, unit, e)
			}
			return
		}
		read++
		if size.Check(d) != api.OK {
			t.Errorf("%q: %v", s, d)
		}
		if back, f := size.Write(d, unit); back != s || f != api.OK || written(d, unit) != s {
			t.Errorf("%q: %v %v, written %q %v", s, d, unit, back, f)
		}
	}
	for _, s := range []string{"20.000 +0.000 +0.021 mm", "20.000 -0.020 -0.007 mm", "0.000 +0.000 +0.000 mm", "10000.000 -0.001 +0.000 mm", "0.7874 +0.0001 +0.0008 in", "393.7007 -393.7007 +0.0000 in"} {
		for i := range len(s) + 1 {
			for c := range 256 {
				more := string([]byte{byte(c)})
				try(s[:i] + more + s[i:])
				if i < len(s) {
					try(s[:i] + more + s[i+1:])
				}
			}
			try(s[:i])
			try(s[i:])
			if i < len(s) {
				try(s[:i] + s[i+1:])
			}
		}
	}
	if read < 500 {
		t.Error("few texts were read:", read)
	}
}
