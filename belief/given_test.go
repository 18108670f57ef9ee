package belief_test

import (
	"math/big"
	"math/rand"
	"slices"
	"strings"
	"testing"

	"foresight/api"
	"foresight/belief"
	"foresight/ratio"
)

// The document's bound on signs.
const mostSigns = 12

// tiny is the least fraction above 0 that Parse reads.
var tiny = "1/" + strings.Repeat("9", api.MaxDigits)

// one is the fraction of a text that must be one. A tilde is tiny.
func one(t *testing.T, text string) ratio.Ratio {
	t.Helper()
	a, err := ratio.Parse(strings.ReplaceAll(text, "~", tiny))
	if err != nil {
		t.Fatalf("Parse(%q): %v", text, err)
	}
	return a
}

// part is a fraction of two numbers.
func part(over, under int) ratio.Ratio {
	out, _ := ratio.Of(over, under)
	return out
}

// list reads fractions, apart by spaces.
func list(t *testing.T, text string) []ratio.Ratio {
	t.Helper()
	var out []ratio.Ratio
	for word := range strings.FieldsSeq(text) {
		out = append(out, one(t, word))
	}
	return out
}

// rows reads lists, apart by semicolons.
func rows(t *testing.T, text string) [][]ratio.Ratio {
	t.Helper()
	var out [][]ratio.Ratio
	for row := range strings.SplitSeq(text, ";") {
		out = append(out, list(t, row))
	}
	return out
}

// hidden reads First, Next and Sign, apart by lines.
func hidden(t *testing.T, text string) belief.Hidden {
	t.Helper()
	parts := strings.Split(text, "|")
	if len(parts) != 3 {
		t.Fatalf("%q has %d parts", text, len(parts))
	}
	return belief.Hidden{First: list(t, parts[0]), Next: rows(t, parts[1]), Sign: rows(t, parts[2])}
}

// lines writes lists as rows reads them.
func lines(l [][]ratio.Ratio) string {
	var out []string
	for _, row := range l {
		out = append(out, ratio.Words(row))
	}
	return strings.Join(out, "; ")
}

// written writes what hidden reads.
func written(h belief.Hidden) string {
	return ratio.Words(h.First) + " | " + lines(h.Next) + " | " + lines(h.Sign)
}

// digits reads a row of small numbers, a digit each.
func digits(text string) []int {
	var out []int
	for _, digit := range text {
		out = append(out, int(digit-'0'))
	}
	return out
}

// sure is a row of so many by which one of them is certain.
func sure(n, which int) []ratio.Ratio {
	out := make([]ratio.Ratio, n)
	out[which] = ratio.Whole(1)
	return out
}

// ring is so many states, from each one to the next one, each of which gives
// one of so many signs, by turns.
func ring(states, signs int) belief.Hidden {
	h := belief.Hidden{First: sure(states, 0)}
	for s := range states {
		h.Next = append(h.Next, sure(states, (s+1)%states))
		h.Sign = append(h.Sign, sure(signs, s%signs))
	}
	return h
}

// shares is so many fractions that are 1 together and look drawn, many of them
// 0 or like each other.
func shares(die *rand.Rand, n int) []ratio.Ratio {
	weights, all := make([]int, n), 0
	for i := range weights {
		weights[i] = die.Intn(5) / 2
		all += weights[i]
	}
	if all == 0 {
		weights[die.Intn(n)], all = 1, 1
	}
	out := make([]ratio.Ratio, n)
	for i, w := range weights {
		out[i] = part(w, all)
	}
	return out
}

// drawn is what looks drawn, with so many states and signs.
func drawn(die *rand.Rand, states, signs int) belief.Hidden {
	h := belief.Hidden{First: shares(die, states)}
	for range states {
		h.Next = append(h.Next, shares(die, states))
		h.Sign = append(h.Sign, shares(die, signs))
	}
	return h
}

// drawnSigns is so many of them that look drawn.
func drawnSigns(die *rand.Rand, h belief.Hidden, n int) []int {
	out := make([]int, n)
	for i := range out {
		out[i] = die.Intn(len(h.Sign[0]))
	}
	return out
}

// long puts fractions of many digits into what stays as it may be.
func long(t *testing.T, h belief.Hidden) belief.Hidden {
	t.Helper()
	least := one(t, "~")
	for _, row := range append([][]ratio.Ratio{h.First, h.Sign[0]}, h.Next...) {
		for i := range row {
			row[i] = part(1, len(row))
		}
		if len(row) > 1 {
			row[0], row[1] = row[0].Add(least), row[1].Sub(least)
		}
	}
	return h
}

// known is a fraction as the library has it.
func known(t *testing.T, a ratio.Ratio) *big.Rat {
	t.Helper()
	out, ok := new(big.Rat).SetString(a.Text())
	if !ok {
		t.Fatalf("no fraction: %q", a.Text())
	}
	return out
}

// truth is what the document asks of some signs, by the library.
type truth struct {
	likely *big.Rat
	states [][]*big.Rat // of each time, and state, how likely it is then with all signs
	path   []int
	best   *big.Rat
	like   int // how many rows are the most likely ones
}

// truthOf looks at all rows of states, in their order.
func truthOf(t *testing.T, h belief.Hidden, signs []int) truth {
	t.Helper()
	out := truth{likely: new(big.Rat), best: new(big.Rat)}
	for range signs {
		row := make([]*big.Rat, len(h.First))
		for s := range row {
			row[s] = new(big.Rat)
		}
		out.states = append(out.states, row)
	}
	var first []*big.Rat
	var next, sign [][]*big.Rat
	lib := func(l []ratio.Ratio) []*big.Rat {
		var out []*big.Rat
		for _, a := range l {
			out = append(out, known(t, a))
		}
		return out
	}
	first = lib(h.First)
	for s := range h.First {
		next, sign = append(next, lib(h.Next[s])), append(sign, lib(h.Sign[s]))
	}
	var look func(row []int, likely *big.Rat)
	look = func(row []int, likely *big.Rat) {
		if len(row) == len(signs) {
			out.add(row, likely)
			return
		}
		for s := range first {
			share := first[s]
			if len(row) > 0 {
				share = next[row[len(row)-1]][s]
			}
			x := new(big.Rat).Mul(likely, share)
			x.Mul(x, sign[s][signs[len(row)]])
			look(append(row, s), x)
		}
	}
	look(nil, big.NewRat(1, 1))
	return out
}

// add counts a row of states with how likely it is with the signs.
func (w *truth) add(row []int, likely *big.Rat) {
	w.likely.Add(w.likely, likely)
	for time, s := range row {
		w.states[time][s].Add(w.states[time][s], likely)
	}
	switch likely.Cmp(w.best) {
	case 1:
		w.path, w.best, w.like = slices.Clone(row), likely, 1
	case 0:
		w.like++
	}
}

// at is how likely each state is at a time, if all signs are known; they can
// come.
func (w truth) at(time int) string {
	var out []string
	for _, x := range w.states[time] {
		out = append(out, new(big.Rat).Quo(x, w.likely).RatString())
	}
	return strings.Join(out, " ")
}

// says fails unless an error is that Errno itself, as no place belongs to it.
func says(t *testing.T, err error, want api.Errno, what ...any) {
	t.Helper()
	if want == api.OK && err == nil {
		return
	}
	if err != error(want) {
		t.Errorf("%v: error %v, want %v", what, err, want)
	}
}

// likely fails unless Likely tells this.
func likely(t *testing.T, h belief.Hidden, signs []int, want string) {
	t.Helper()
	got, err := belief.Likely(h, signs)
	if err != nil || got.Text() != want {
		t.Errorf("Likely of %s, %v: %.300s, error %v, want %.300s", written(h), signs, got.Text(), err, want)
	}
}

// told fails unless lists are as wanted, with no error.
func told(t *testing.T, got [][]ratio.Ratio, err error, want string, what ...any) {
	t.Helper()
	if text := lines(got); err != nil || text != want {
		t.Errorf("%v: %.300q, error %v, want %.300q", what, text, err, want)
	}
}

// filtered fails unless Filter tells this.
func filtered(t *testing.T, h belief.Hidden, signs []int, want string) {
	t.Helper()
	got, err := belief.Filter(h, signs)
	told(t, got, err, want, "Filter", written(h), signs)
}

// smoothed fails unless Smooth tells this.
func smoothed(t *testing.T, h belief.Hidden, signs []int, want string) {
	t.Helper()
	got, err := belief.Smooth(h, signs)
	told(t, got, err, want, "Smooth", written(h), signs)
}

// gone fails unless Path tells this.
func gone(t *testing.T, h belief.Hidden, signs, path []int, want string) {
	t.Helper()
	got, best, err := belief.Path(h, signs)
	if err != nil || !slices.Equal(got, path) || best.Text() != want {
		t.Errorf("Path of %s, %v: %v, %.300s, error %v, want %v, %.300s", written(h), signs, got, best.Text(), err, path, want)
	}
}

// stateless fails unless all that tell of states have this error, and nothing
// beside it.
func stateless(t *testing.T, h belief.Hidden, signs []int, want api.Errno, what ...any) {
	t.Helper()
	l, err := belief.Filter(h, signs)
	if says(t, err, want, "Filter", what); len(l) != 0 {
		t.Errorf("Filter %v: %s beside an error", what, lines(l))
	}
	l, err = belief.Smooth(h, signs)
	if says(t, err, want, "Smooth", what); len(l) != 0 {
		t.Errorf("Smooth %v: %s beside an error", what, lines(l))
	}
	path, best, err := belief.Path(h, signs)
	if says(t, err, want, "Path", what); len(path) != 0 || best.Sign() != 0 {
		t.Errorf("Path %v: %v, %s beside an error", what, path, best.Text())
	}
}

// refusedSigns fails unless all have this error, and nothing beside it.
func refusedSigns(t *testing.T, h belief.Hidden, signs []int, want api.Errno, what ...any) {
	t.Helper()
	x, err := belief.Likely(h, signs)
	if says(t, err, want, "Likely", what); x.Sign() != 0 {
		t.Errorf("Likely %v: %s beside an error", what, x.Text())
	}
	stateless(t, h, signs, want, what...)
}
