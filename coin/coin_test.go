package coin_test

import (
	"fmt"
	"math"
	"slices"
	"strings"
	"testing"

	"foresight/api"
	"foresight/coin"
	"foresight/ratio"
)

// longest is the document's bound on a word's letters.
const longest = 12

// one is the fraction of a text that must be one.
func one(t *testing.T, text string) ratio.Ratio {
	t.Helper()
	a, err := ratio.Parse(text)
	if err != nil {
		t.Fatalf("Parse(%q): %v", text, err)
	}
	return a
}

// chances reads fractions, apart by spaces.
func chances(t *testing.T, text string) []ratio.Ratio {
	t.Helper()
	var out []ratio.Ratio
	for word := range strings.FieldsSeq(text) {
		out = append(out, one(t, word))
	}
	return out
}

// even is so many letters, each as likely.
func even(t *testing.T, n int) []ratio.Ratio {
	t.Helper()
	share, err := ratio.Of(1, n)
	if err != nil {
		t.Fatal(err)
	}
	return slices.Repeat([]ratio.Ratio{share}, n)
}

// word is the letters of digits.
func word(digits string) []int {
	var out []int
	for _, digit := range digits {
		out = append(out, int(digit-'0'))
	}
	return out
}

// words is all of 1 to so many letters, each one of so many.
func words(letters, most int) [][]int {
	var out [][]int
	longer := [][]int{nil}
	for range most {
		var next [][]int
		for _, w := range longer {
			for letter := range letters {
				next = append(next, append(slices.Clone(w), letter))
			}
		}
		longer = next
		out = append(out, longer...)
	}
	return out
}

// says fails unless an error is that Errno itself, as no place belongs to it.
func says(t *testing.T, err error, want api.Errno, what ...any) {
	t.Helper()
	if want == api.OK && err == nil {
		return
	}
	if err != error(want) {
		t.Errorf("%v: error %v, want %v", what, err, want)
	}
}

// is fails unless a fraction is as wanted, with no error.
func is(t *testing.T, got ratio.Ratio, err error, want string, what ...any) {
	t.Helper()
	if err != nil || got.Text() != want {
		t.Errorf("%v: %s, error %v, want %s", what, got.Text(), err, want)
	}
}

// refused fails unless a fraction is 0 beside the wanted error.
func refused(t *testing.T, got ratio.Ratio, err error, want api.Errno, what ...any) {
	t.Helper()
	says(t, err, want, what...)
	if got.Sign() != 0 {
		t.Errorf("%v: %s beside an error", what, got.Text())
	}
}

// part is a quotient by what isn't 0.
func part(t *testing.T, a, b ratio.Ratio) ratio.Ratio {
	t.Helper()
	out, err := a.Div(b)
	if err != nil {
		t.Fatal(err)
	}
	return out
}

// ends says whether letters have a word at their end.
func ends(letters, w []int) bool {
	return len(letters) >= len(w) && slices.Equal(letters[len(letters)-len(w):], w)
}

// stands says whether a word is a piece of letters.
func stands(w, letters []int) bool {
	for end := range len(letters) + 1 {
		if ends(letters[:end], w) {
			return true
		}
	}
	return false
}

// solved is the numbers x with x = add + rows x.
func solved(t *testing.T, rows [][]ratio.Ratio, add []ratio.Ratio) []ratio.Ratio {
	t.Helper()
	n := len(add)
	m := make([][]ratio.Ratio, n)
	for i := range m {
		m[i] = make([]ratio.Ratio, n+1)
		for j := range n {
			m[i][j] = rows[i][j].Mul(ratio.Whole(-1))
		}
		m[i][i] = m[i][i].Add(ratio.Whole(1))
		m[i][n] = add[i]
	}
	for i := range n {
		at := i
		for m[at][i].Sign() == 0 {
			at++
		}
		m[i], m[at] = m[at], m[i]
		for k := range n {
			if k == i || m[k][i].Sign() == 0 {
				continue
			}
			times := part(t, m[k][i], m[i][i])
			for j := i; j <= n; j++ {
				m[k][j] = m[k][j].Sub(times.Mul(m[i][j]))
			}
		}
	}
	out := make([]ratio.Ratio, n)
	for i := range out {
		out[i] = part(t, m[i][n], m[i][i])
	}
	return out
}

// race is letters that come until one of some words has come: how many in the
// mean, and how likely the first of these words is that one; by what came
// last, as far as it is a beginning of one of them.
func race(t *testing.T, letters []ratio.Ratio, ws ...[]int) (times, first ratio.Ratio) {
	t.Helper()
	states := [][]int{nil}
	for _, w := range ws {
		for n := 1; n < len(w); n++ {
			if !slices.ContainsFunc(states, func(s []int) bool { return slices.Equal(s, w[:n]) }) {
				states = append(states, w[:n])
			}
		}
	}
	rows := make([][]ratio.Ratio, len(states))
	steps := slices.Repeat([]ratio.Ratio{ratio.Whole(1)}, len(states))
	wins := make([]ratio.Ratio, len(states))
	for i, s := range states {
		rows[i] = make([]ratio.Ratio, len(states))
		for letter, share := range letters {
			came := append(slices.Clone(s), letter)
			if ends(came, ws[0]) {
				wins[i] = wins[i].Add(share)
			}
			if slices.ContainsFunc(ws, func(w []int) bool { return ends(came, w) }) {
				continue
			}
			best := 0
			for j, other := range states {
				if ends(came, other) && len(other) > len(states[best]) {
					best = j
				}
			}
			rows[i][best] = rows[i][best].Add(share)
		}
	}
	return solved(t, rows, steps)[0], solved(t, rows, wins)[0]
}

// bad is letters and a word that can't be, and what is told of them.
type bad struct {
	name    string
	letters []ratio.Ratio
	word    []int
	want    api.Errno
}

// badLetters is letters that are no law, with words that can't be, too.
func badLetters(t *testing.T) []bad {
	t.Helper()
	long := slices.Concat(chances(t, "1"), make([]ratio.Ratio, api.MaxSize+1))
	var out []bad
	for _, w := range [][]int{word("01"), nil, word("9"), word("0000000000000"), {-1}} {
		out = append(out,
			bad{"no letters", nil, w, api.ErrLimit},
			bad{"an empty list", []ratio.Ratio{}, w, api.ErrLimit},
			bad{"MaxSize + 2 letters", long, w, api.ErrLimit},
			bad{"a chance below 0", chances(t, "-1/2 3/2"), w, api.ErrArg},
			bad{"below 0, and not 1 together", chances(t, "1/2 -1/3"), w, api.ErrArg},
			bad{"above 1 together", chances(t, "1/2 2/3"), w, api.ErrSum},
			bad{"below 1 together", chances(t, "1/2 1/3"), w, api.ErrSum},
			bad{"noughts", chances(t, "0 0"), w, api.ErrSum},
		)
	}
	return out
}

// badWords is words that can't be, of letters that can.
func badWords(t *testing.T) []bad {
	t.Helper()
	two, three := chances(t, "1/3 2/3"), chances(t, "1/3 0 2/3")
	return []bad{
		{"nil", two, nil, api.ErrLimit},
		{"no letter", two, []int{}, api.ErrLimit},
		{"13 letters", two, word("0101010101010"), api.ErrLimit},
		{"13 letters that there aren't", two, word("9999999999999"), api.ErrLimit},
		{"13 letters that never come", three, word("1111111111111"), api.ErrLimit},
		{"one beyond", two, word("012"), api.ErrRange},
		{"below 0", two, []int{0, -1}, api.ErrRange},
		{"far beyond", two, []int{math.MaxInt}, api.ErrRange},
		{"far below", two, []int{math.MinInt, 0}, api.ErrRange},
		{"one that never comes", three, word("1"), api.ErrNone},
		{"the last one never comes", three, word("021"), api.ErrNone},
		{"one that never comes, then one beyond", three, word("013"), api.ErrNone},
		{"one beyond, then one that never comes", three, word("031"), api.ErrRange},
		{"below 0, then one that never comes", three, []int{-1, 1}, api.ErrRange},
	}
}

// 4.1: what is asked of letters, ahead of all that is asked of words.
func TestLettersWrong(t *testing.T) {
	for _, c := range badLetters(t) {
		for _, other := range [][]int{word("0"), word("01"), nil, word("9")} {
			got, err := coin.Lead(c.letters, c.word, other)
			refused(t, got, err, c.want, "Lead", c.name, c.word, other)
			got, err = coin.First(c.letters, c.word, other)
			refused(t, got, err, c.want, "First", c.name, c.word, other)
		}
		got, err := coin.Wait(c.letters, c.word)
		refused(t, got, err, c.want, "Wait", c.name, c.word)
		got, err = coin.Times(c.letters, c.word)
		refused(t, got, err, c.want, "Times", c.name, c.word)
	}
}

// 4.1: what is asked of a word, as the one and as the other one.
func TestWordWrong(t *testing.T) {
	for _, c := range badWords(t) {
		for _, good := range [][]int{word("0"), word("000000000000")} {
			for _, pair := range [][2][]int{{c.word, good}, {good, c.word}} {
				got, err := coin.Lead(c.letters, pair[0], pair[1])
				refused(t, got, err, c.want, "Lead", c.name, pair)
				got, err = coin.First(c.letters, pair[0], pair[1])
				refused(t, got, err, c.want, "First", c.name, pair)
			}
		}
		got, err := coin.Wait(c.letters, c.word)
		refused(t, got, err, c.want, "Wait", c.name)
		got, err = coin.Times(c.letters, c.word)
		refused(t, got, err, c.want, "Times", c.name)
	}
}

// 4.1: of two words that can't be the first one is told of, whatever the
// other one's error is.
func TestWordsWrong(t *testing.T) {
	three := chances(t, "1/3 0 2/3")
	errs := []bad{
		{"no letter", three, nil, api.ErrLimit},
		{"13 letters", three, word("0000000000000"), api.ErrLimit},
		{"beyond", three, word("03"), api.ErrRange},
		{"never comes", three, word("01"), api.ErrNone},
	}
	for _, c := range errs {
		for _, d := range errs {
			got, err := coin.Lead(three, c.word, d.word)
			refused(t, got, err, c.want, "Lead", c.name, d.name)
			got, err = coin.First(three, c.word, d.word)
			refused(t, got, err, c.want, "First", c.name, d.name)
		}
	}
}

// 4.1: words of 1 and 12 letters, letters of any chance but 0, one letter
// alone, and MaxSize + 1 of them.
func TestWordsAtTheEdges(t *testing.T) {
	last := []int{api.MaxSize}
	for _, c := range []struct {
		letters []ratio.Ratio
		word    []int
		want    string
	}{
		{chances(t, "1"), word("0"), "1"},
		{chances(t, "1"), word("000000000000"), "12"},
		{chances(t, "0 1"), word("111"), "3"},
		{chances(t, "0 1/4 3/4"), word("1"), "4"},
		{chances(t, "1/2 1/2"), word("000000000000"), "8190"},
		{chances(t, "1/2 1/2"), word("000000000001"), "4096"},
		{chances(t, "1/2 1/2"), word("010101010101"), "5460"},
		{even(t, api.MaxSize+1), last, "101"},
		{even(t, api.MaxSize+1), []int{api.MaxSize, 0, api.MaxSize}, "1030402"},
		{even(t, api.MaxSize), []int{api.MaxSize - 1, 0}, "10000"},
	} {
		got, err := coin.Wait(c.letters, c.word)
		is(t, got, err, c.want, "Wait", c.word)
		got, err = coin.Times(c.letters, c.word)
		is(t, got, err, c.want, "Times", c.word)
		got, err = coin.Lead(c.letters, c.word, c.word)
		is(t, got, err, c.want, "Lead", c.word)
	}
	got, err := coin.Wait(even(t, api.MaxSize+1), []int{api.MaxSize + 1})
	refused(t, got, err, api.ErrRange, "a letter beyond MaxSize + 1 of them")
}

// 4.2: numbers that are known.
func TestLeadKnown(t *testing.T) {
	for _, c := range []struct {
		letters, one, other, want string
	}{
		{"1/2 1/2", "101", "101", "10"},
		{"1/2 1/2", "001", "100", "2"},
		{"1/2 1/2", "100", "001", "6"},
		{"1/2 1/2", "0", "1", "0"},
		{"1/2 1/2", "10", "0", "2"},
		{"1/2 1/2", "0", "01", "2"},
		{"1/2 1/2", "01", "0", "0"},
		{"1/2 1/2", "010", "01001", "10"},
		{"1/2 1/2", "01001", "010", "4"},
		{"1/3 2/3", "0", "0", "3"},
		{"1/3 2/3", "0101", "01", "9/2"},
		{"1/3 2/3", "1010", "01", "3"},
		{"1/3 2/3", "0110", "0110", "93/4"},
		{"1/2 1/3 1/6", "2012", "2010", "6"},
	} {
		got, err := coin.Lead(chances(t, c.letters), word(c.one), word(c.other))
		is(t, got, err, c.want, "Lead", c.letters, c.one, c.other)
	}
}

// 4.2: all short words, by the plain words of the promise.
func TestLeadOfAllShortWords(t *testing.T) {
	letters := chances(t, "1/3 2/3")
	all := words(2, 5)
	for _, v := range all {
		for _, w := range all {
			var want ratio.Ratio
			for n := 1; n <= min(len(v), len(w)); n++ {
				if !ends(v, w[:n]) {
					continue
				}
				product := ratio.Whole(1)
				for _, letter := range w[:n] {
					product = product.Mul(letters[letter])
				}
				want = want.Add(part(t, ratio.Whole(1), product))
			}
			got, err := coin.Lead(letters, v, w)
			is(t, got, err, want.Text(), "Lead", v, w)
		}
	}
}

// 4.2, 4.3: how many letters come, by what they come to one by one.
func TestWaitOfAllShortWords(t *testing.T) {
	for _, c := range []struct {
		letters string
		n, most int
	}{{"1/2 1/2", 2, 6}, {"1/7 6/7", 2, 6}, {"1/2 1/3 1/6", 3, 4}, {"2/5 3/5 0", 2, 4}} {
		letters := chances(t, c.letters)
		for _, w := range words(c.n, c.most) {
			times, _ := race(t, letters, w)
			got, err := coin.Wait(letters, w)
			is(t, got, err, times.Text(), "Wait", c.letters, w)
			got, err = coin.Times(letters, w)
			is(t, got, err, times.Text(), "Times", c.letters, w)
		}
	}
}

// 4.2, 4.3: Wait and Times are one, of long words and long fractions too.
func TestWaitIsTimes(t *testing.T) {
	long := one(t, "12345678901234567890123/98765432109876543210987")
	letters := []ratio.Ratio{long, one(t, "1/2"), one(t, "1/2").Sub(long)}
	for seed := range 200 {
		w := make([]int, 1+seed%longest)
		for i := range w {
			w[i] = (seed * (i + 3) / (1 + i%3)) % 3
		}
		got, err := coin.Times(letters, w)
		want, _ := coin.Wait(letters, w)
		is(t, got, err, want.Text(), "Times", w)
		if got.Cmp(ratio.Whole(len(w))) < 0 {
			t.Errorf("Times of %v: %s is fewer than it has letters", w, got.Text())
		}
	}
}

// 4.2: numbers that are known.
func TestFirstKnown(t *testing.T) {
	for _, c := range []struct {
		letters, one, other, want string
	}{
		{"1/2 1/2", "001", "100", "1/4"},
		{"1/2 1/2", "100", "001", "3/4"},
		{"1/2 1/2", "100", "000", "7/8"},
		{"1/2 1/2", "001", "010", "2/3"},
		{"1/2 1/2", "1010", "0100", "9/14"},
		{"1/2 1/2", "0", "1", "1/2"},
		{"1/3 2/3", "0", "1", "1/3"},
		{"1/3 2/3", "0", "11", "5/9"},
		{"1/2 1/3 1/6", "0", "2", "3/4"},
		{"1/2 1/3 1/6", "1", "2", "2/3"},
	} {
		got, err := coin.First(chances(t, c.letters), word(c.one), word(c.other))
		is(t, got, err, c.want, "First", c.letters, c.one, c.other)
	}
}

// 4.2: all pairs of short words: how likely each is, by what comes one by
// one; and which of them can't be asked of.
func TestFirstOfAllShortWords(t *testing.T) {
	for _, c := range []struct {
		letters string
		n, most int
	}{{"1/2 1/2", 2, 4}, {"1/5 4/5", 2, 4}, {"1/2 1/3 1/6", 3, 2}, {"1/4 1/4 1/2", 2, 3}} {
		letters := chances(t, c.letters)
		all := words(c.n, c.most)
		for _, v := range all {
			for _, w := range all {
				got, err := coin.First(letters, v, w)
				if stands(v, w) || stands(w, v) {
					refused(t, got, err, api.ErrArg, "First", v, w)
					continue
				}
				_, want := race(t, letters, v, w)
				is(t, got, err, want.Text(), "First", c.letters, v, w)
			}
		}
	}
}

// 4.2: one word in the other one, at its beginning, its end, within; the same
// twice; of the longest words, too; and 1 together else.
func TestFirstOneInTheOther(t *testing.T) {
	letters := chances(t, "1/3 2/3")
	for _, c := range [][2]string{
		{"0", "0"}, {"101", "101"}, {"10", "100"}, {"10", "010"}, {"1", "010"}, {"0110", "1011011"},
		{"010101010101", "010101010101"}, {"000000000000", "0"}, {"000000000001", "1"}, {"000000000001", "00000000001"},
	} {
		for _, pair := range [][2]string{c, {c[1], c[0]}} {
			got, err := coin.First(letters, word(pair[0]), word(pair[1]))
			refused(t, got, err, api.ErrArg, "First", pair)
		}
	}
	for _, c := range [][2]string{
		{"000000000000", "111111111111"}, {"010101010101", "101010101010"}, {"110", "010101010101"}, {"000000000001", "10"},
	} {
		mine, err := coin.First(letters, word(c[0]), word(c[1]))
		says(t, err, api.OK, "First", c)
		yours, err := coin.First(letters, word(c[1]), word(c[0]))
		is(t, mine.Add(yours), err, "1", "First of either", c)
		if mine.Sign() <= 0 || yours.Sign() <= 0 {
			t.Errorf("First of %v: %s and %s", c, mine.Text(), yours.Text())
		}
	}
}

// walked is Steps by the plain words of the promise.
func walked(letters int, w []int) [][]int {
	out := make([][]int, len(w)+1)
	for k := range out {
		out[k] = make([]int, letters)
		for letter := range letters {
			came := append(slices.Clone(w[:k]), letter)
			for n := 1; n <= len(w); n++ {
				if ends(came, w[:n]) {
					out[k][letter] = n
				}
			}
		}
	}
	return out
}

// steps fails unless Steps tells these rows.
func steps(t *testing.T, letters int, w []int, want [][]int) {
	t.Helper()
	got, err := coin.Steps(letters, w)
	if err != nil || !slices.EqualFunc(got, want, slices.Equal[[]int]) {
		t.Errorf("Steps of %d letters, %v: %v, error %v, want %v", letters, w, got, err, want)
	}
}

// 4.3: rows that are known, and those of the edges.
func TestStepsKnown(t *testing.T) {
	steps(t, 1, word("0"), [][]int{{1}, {1}})
	steps(t, 2, word("0"), [][]int{{1, 0}, {1, 0}})
	steps(t, 1, word("000"), [][]int{{1}, {2}, {3}, {3}})
	steps(t, 2, word("101"), [][]int{{0, 1}, {2, 1}, {0, 3}, {2, 1}})
	steps(t, 2, word("0010"), [][]int{{1, 0}, {2, 0}, {2, 3}, {4, 0}, {2, 0}})
	steps(t, 3, word("0102"), [][]int{{1, 0, 0}, {1, 2, 0}, {3, 0, 0}, {1, 2, 4}, {1, 0, 0}})
	for _, w := range []string{"000000000000", "010101010101", "001001001000", "010010010101", "000000000001"} {
		steps(t, 2, word(w), walked(2, word(w)))
	}
	for _, w := range [][]int{{0}, {api.MaxSize - 1}, {99, 0, 99, 99, 0, 99, 0, 99, 99, 0, 99, 1}} {
		steps(t, api.MaxSize, w, walked(api.MaxSize, w))
	}
}

// 4.3: all short words, by the plain words of the promise.
func TestStepsOfAllShortWords(t *testing.T) {
	for _, w := range words(2, 9) {
		steps(t, 2, w, walked(2, w))
	}
	for _, w := range words(3, 5) {
		steps(t, 4, w, walked(4, w))
	}
}

// 4.3: letters and words that can't be; how many there are is told first.
func TestStepsWrong(t *testing.T) {
	thirteen := word("0000000000000")
	for _, c := range []struct {
		letters int
		word    []int
		want    api.Errno
	}{
		{0, word("0"), api.ErrLimit}, {-1, word("0"), api.ErrLimit}, {api.MaxSize + 1, word("0"), api.ErrLimit},
		{math.MaxInt, word("0"), api.ErrLimit}, {math.MinInt, word("0"), api.ErrLimit}, {0, nil, api.ErrLimit},
		{2, nil, api.ErrLimit}, {2, []int{}, api.ErrLimit}, {2, thirteen, api.ErrLimit},
		{2, append(word("9"), thirteen...), api.ErrLimit}, {api.MaxSize + 1, []int{-1}, api.ErrLimit}, {0, []int{5}, api.ErrLimit},
		{1, word("1"), api.ErrRange}, {2, word("012"), api.ErrRange}, {2, []int{-1}, api.ErrRange}, {2, []int{0, 1, -1}, api.ErrRange},
		{api.MaxSize, []int{api.MaxSize}, api.ErrRange}, {2, []int{math.MaxInt}, api.ErrRange}, {2, []int{0, math.MinInt}, api.ErrRange},
	} {
		got, err := coin.Steps(c.letters, c.word)
		says(t, err, c.want, "Steps", c.letters, c.word)
		if got != nil {
			t.Errorf("Steps of %d, %v: %v beside an error", c.letters, c.word, got)
		}
	}
}

// P4: no two rows of an answer share memory, not even behind their ends.
func TestStepsRowsAreApart(t *testing.T) {
	w := word("0010")
	got, _ := coin.Steps(2, w)
	want := walked(2, w)
	for k := range got {
		for i := range got[k] {
			got[k][i] = -7
		}
		_ = append(got[k], -8, -8, -8)
		for later := k + 1; later < len(got); later++ {
			if !slices.Equal(got[later], want[later]) {
				t.Fatalf("row %d shares memory with row %d", later, k)
			}
		}
	}
	steps(t, 2, w, want)
}

// P4: nothing that is handed in is written into, nor what stands behind its
// length.
func TestHandedInStays(t *testing.T) {
	letters := chances(t, "1/3 2/3 7 8")
	v, w := word("0010789"), word("1100789")
	before := fmt.Sprint(ratio.Words(letters), v, w)
	l, x, y := letters[:2], v[:4], w[:4]
	coin.Lead(l, x, y)
	coin.First(l, x, y)
	coin.Wait(l, x)
	coin.Times(l, x)
	coin.Steps(2, x)
	if after := fmt.Sprint(ratio.Words(letters), v, w); after != before {
		t.Errorf("%s became %s", before, after)
	}
}
