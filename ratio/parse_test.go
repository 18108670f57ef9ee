package ratio_test

import (
	"strings"
	"testing"

	"foresight/api"
	"foresight/ratio"
)

// noughts is so many of them.
func noughts(n int) string { return strings.Repeat("0", n) }

// 1.2: texts of the form, noughts ahead and MaxDigits digits among them.
func TestParse(t *testing.T) {
	nines := strings.Repeat("9", api.MaxDigits)
	for text, want := range map[string]string{
		"0": "0", "-0": "0", "0/5": "0", "-0/5": "0", "000": "0", "3": "3", "-3": "-3",
		"007": "7", "-007": "-7", "3/4": "3/4", "-3/4": "-3/4", "6/8": "3/4", "-06/0008": "-3/4", "8/4": "2", "5/1": "5",
		"9223372036854775808":  "9223372036854775808",
		"-9223372036854775809": "-9223372036854775809",
		"18446744073709551616": "18446744073709551616",
		nines:                  nines,
		"-" + nines:            "-" + nines,
		"1/" + nines:           "1/" + nines,
		nines + "/" + nines:    "1",
		"-" + nines + "/9":     "-" + strings.Repeat("1", api.MaxDigits),
		noughts(api.MaxDigits-1) + "1/" + noughts(api.MaxDigits-1) + "2": "1/2",
	} {
		a, err := ratio.Parse(text)
		if err != nil {
			t.Errorf("%q: %v", text, err)
		}
		tells(t, text, a, want)
	}
}

// 1.2: what Text writes, Parse reads.
func TestParseReadsTexts(t *testing.T) {
	for over := -30; over <= 30; over++ {
		for under := 1; under <= 12; under++ {
			a, _ := ratio.Of(over, under)
			tells(t, "read again", read(t, a.Text()), a.Text())
		}
	}
}

// 1.2: ErrForm, at the first byte that can't stand there, or at the length.
func TestParseForm(t *testing.T) {
	long := strings.Repeat("7", api.MaxDigits+1)
	for text, place := range map[string]int{
		"": 0, "-": 1, "1/": 2, "-1/": 3, "0/": 2, // something is missing
		"/2": 0, "-/2": 1, "/": 0, "+1": 0, " 1": 0, "x": 0, "--1": 1, "-+1": 1, "- 1": 1,
		"1 ": 1, "1\n": 1, "1.5": 1, "1e3": 1, "1-": 1, "1_000": 1, "0x10": 1, "12a": 2, "1,5": 1, "1\x00": 1, "\x00": 0,
		"1//2": 2, "1/-2": 2, "1/+2": 2, "1/ 2": 2, "1/x": 2, "1 /2": 1, "1:2": 1,
		"3/4%": 3, "1/2/3": 3, "1/2/": 3, "1/2 ": 3, "-1/2x": 4, "1/0x": 3, "0/0/": 3,
		"\u0663": 0, "1\u00b2": 1, "\u22121": 0, "1\u20442": 1, "1\xff": 1,
		long + "x": len(long), long + "/": len(long) + 1, "1/" + long + "/": len(long) + 2, // ahead of ErrLimit
	} {
		a, err := ratio.Parse(text)
		at, ok := err.(*api.At)
		if !ok || at.Err != api.ErrForm || at.Place != place {
			t.Errorf("%q: %#v, want ErrForm at %d", text, err, place)
		}
		if a.Sign() != 0 {
			t.Errorf("%q: %s beside an error", text, a.Text())
		}
	}
}

// 1.2: ErrLimit, ahead of ErrZero; both are plain Errnos (P3).
func TestParseLimitAndZero(t *testing.T) {
	long := strings.Repeat("9", api.MaxDigits+1)
	for text, want := range map[string]api.Errno{
		long: api.ErrLimit, "-" + long: api.ErrLimit, long + "/1": api.ErrLimit, "1/" + long: api.ErrLimit, long + "/" + long: api.ErrLimit,
		noughts(api.MaxDigits + 1):          api.ErrLimit,
		noughts(api.MaxDigits) + "1":        api.ErrLimit,
		"1/" + noughts(api.MaxDigits) + "1": api.ErrLimit,
		long + "/0":                         api.ErrLimit,
		"1/" + noughts(api.MaxDigits+1):     api.ErrLimit,
		"1/0":                               api.ErrZero,
		"0/0":                               api.ErrZero,
		"-1/00":                             api.ErrZero,
		"1/" + noughts(api.MaxDigits):       api.ErrZero,
		long[1:] + "/0":                     api.ErrZero,
	} {
		a, err := ratio.Parse(text)
		if err != want {
			t.Errorf("%q: %#v, want %d", text, err, int(want))
		}
		if a.Sign() != 0 {
			t.Errorf("%q: %s beside an error", text, a.Text())
		}
	}
}

// P1: no text makes Parse panic, and all it takes is a number of the form.
func FuzzParse(f *testing.F) {
	for _, s := range []string{"", "-", "3", "-3/4", "1/0", "1/", "/2", "3/4%", "1/2/3"} {
		f.Add(s)
	}
	f.Fuzz(func(t *testing.T, text string) {
		a, err := ratio.Parse(text)
		if err != nil {
			return
		}
		b, err := ratio.Parse(a.Text())
		if err != nil || a.Cmp(b) != 0 {
			t.Errorf("%q: %s is read as %s, %v", text, a.Text(), b.Text(), err)
		}
	})
}
