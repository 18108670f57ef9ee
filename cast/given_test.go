package cast_test

import (
	"math/big"
	"math/rand"
	"strings"
	"testing"

	"foresight/api"
	"foresight/cast"
	"foresight/ratio"
)

// tiny is the least fraction above 0 that Parse reads.
var tiny = "1/" + strings.Repeat("9", api.MaxDigits)

// one is the fraction of a text that must be one. A tilde is tiny.
func one(t *testing.T, text string) ratio.Ratio {
	t.Helper()
	a, err := ratio.Parse(strings.ReplaceAll(text, "~", tiny))
	if err != nil {
		t.Fatalf("Parse(%q): %v", text, err)
	}
	return a
}

// part is a fraction of two numbers.
func part(over, under int) ratio.Ratio {
	out, _ := ratio.Of(over, under)
	return out
}

// list reads fractions, apart by spaces.
func list(t *testing.T, text string) []ratio.Ratio {
	t.Helper()
	var out []ratio.Ratio
	for word := range strings.FieldsSeq(text) {
		out = append(out, one(t, word))
	}
	return out
}

// looks reads looks, apart by semicolons: Grow, Stir, Seen and Blur.
func looks(t *testing.T, text string) []cast.Look {
	t.Helper()
	var out []cast.Look
	for look := range strings.SplitSeq(text, ";") {
		if strings.TrimSpace(look) == "" {
			continue
		}
		l := list(t, look)
		if len(l) != 4 {
			t.Fatalf("%q has %d numbers", look, len(l))
		}
		out = append(out, cast.Look{Grow: l[0], Stir: l[1], Seen: l[2], Blur: l[3]})
	}
	return out
}

// state reads a state: Mean and Spread.
func state(t *testing.T, text string) cast.State {
	t.Helper()
	l := list(t, text)
	if len(l) != 2 {
		t.Fatalf("%q has %d numbers", text, len(l))
	}
	return cast.State{Mean: l[0], Spread: l[1]}
}

// lookWords writes what looks reads.
func lookWords(l []cast.Look) string {
	var out []string
	for _, x := range l {
		out = append(out, ratio.Words([]ratio.Ratio{x.Grow, x.Stir, x.Seen, x.Blur}))
	}
	return strings.Join(out, "; ")
}

// stateWords writes states: Mean and Spread, apart by semicolons.
func stateWords(l ...cast.State) string {
	var out []string
	for _, s := range l {
		out = append(out, s.Mean.Text()+" "+s.Spread.Text())
	}
	return strings.Join(out, "; ")
}

// drawn is a fraction that looks drawn, from -20 to 40.
func drawn(die *rand.Rand) ratio.Ratio { return part(die.Intn(60)-20, 1+die.Intn(9)) }

// drawnList is so many of them.
func drawnList(die *rand.Rand, n int) []ratio.Ratio {
	var out []ratio.Ratio
	for range n {
		out = append(out, drawn(die))
	}
	return out
}

// share is a fraction that looks drawn, from 0 to 1, both among them.
func share(die *rand.Rand) ratio.Ratio {
	under := 1 + die.Intn(7)
	return part(die.Intn(under+1), under)
}

// drawnLooks is so many looks that look drawn: in some the number grows by less
// than 0, or by 0, and in some nothing is stirred.
func drawnLooks(die *rand.Rand, n int) []cast.Look {
	var out []cast.Look
	for range n {
		out = append(out, cast.Look{
			Grow: part(die.Intn(9)-4, 1+die.Intn(3)),
			Stir: part(die.Intn(5), 1+die.Intn(3)),
			Seen: drawn(die),
			Blur: part(1+die.Intn(5), 1+die.Intn(4)),
		})
	}
	return out
}

// known is a fraction as the library has it.
func known(t *testing.T, a ratio.Ratio) *big.Rat {
	t.Helper()
	r, ok := new(big.Rat).SetString(a.Text())
	if !ok {
		t.Fatalf("no fraction: %q", a.Text())
	}
	return r
}

// allKnown is fractions as the library has them.
func allKnown(t *testing.T, l []ratio.Ratio) []*big.Rat {
	t.Helper()
	var out []*big.Rat
	for _, a := range l {
		out = append(out, known(t, a))
	}
	return out
}

// whole, sum, less, product and quotient are the library's, each time a fresh
// number.
func whole(n int) *big.Rat           { return big.NewRat(int64(n), 1) }
func sum(a, b *big.Rat) *big.Rat     { return new(big.Rat).Add(a, b) }
func less(a, b *big.Rat) *big.Rat    { return new(big.Rat).Sub(a, b) }
func product(a, b *big.Rat) *big.Rat { return new(big.Rat).Mul(a, b) }
func quotient(a, b *big.Rat) *big.Rat {
	return new(big.Rat).Quo(a, b)
}

// words is fractions of the library, as ratio tells them.
func words(l []*big.Rat) string {
	var out []string
	for _, a := range l {
		out = append(out, a.RatString())
	}
	return strings.Join(out, " ")
}

// says fails unless an error is that Errno itself, as no place belongs to it.
func says(t *testing.T, err error, want api.Errno, what ...any) {
	t.Helper()
	if want == api.OK && err == nil {
		return
	}
	if err != error(want) {
		t.Errorf("%.300v: error %v, want %v", what, err, want)
	}
}

// smooth fails unless Smooth is as wanted, with no error.
func smooth(t *testing.T, l []ratio.Ratio, part, start ratio.Ratio, want string) {
	t.Helper()
	got, err := cast.Smooth(l, part, start)
	if text := ratio.Words(got); err != nil || text != want {
		t.Errorf("Smooth of %.300s, %s, %s: %.300s, error %v, want %.300s", ratio.Words(l), part.Text(), start.Text(), text, err, want)
	}
}

// trend fails unless Trend is as wanted, with no error. begin is the level and
// the trend at first.
func trend(t *testing.T, l []ratio.Ratio, part, slope ratio.Ratio, begin [2]ratio.Ratio, wantLevels, wantTrends string) {
	t.Helper()
	levels, trends, err := cast.Trend(l, part, slope, begin[0], begin[1])
	if text := ratio.Words(levels); err != nil || text != wantLevels {
		t.Errorf("Trend of %.300s, %s, %s, %s: levels %.300s, error %v, want %.300s", ratio.Words(l), part.Text(), slope.Text(), ratio.Words(begin[:]), text, err, wantLevels)
	}
	if text := ratio.Words(trends); text != wantTrends {
		t.Errorf("Trend of %.300s, %s, %s, %s: trends %.300s, want %.300s", ratio.Words(l), part.Text(), slope.Text(), ratio.Words(begin[:]), text, wantTrends)
	}
}

// kalman fails unless Kalman is as wanted, with no error.
func kalman(t *testing.T, l []cast.Look, s cast.State, want string) {
	t.Helper()
	got, err := cast.Kalman(l, s)
	if text := stateWords(got...); err != nil || text != want {
		t.Errorf("Kalman of %.300s from %s: %.300s, error %v, want %.300s", lookWords(l), stateWords(s), text, err, want)
	}
}

// inform fails unless Inform is as wanted, with no error.
func inform(t *testing.T, l []cast.Look, s cast.State, want string) {
	t.Helper()
	got, err := cast.Inform(l, s)
	if text := stateWords(got...); err != nil || text != want {
		t.Errorf("Inform of %.300s from %s: %.300s, error %v, want %.300s", lookWords(l), stateWords(s), text, err, want)
	}
}

// fit fails unless Fit is as wanted, with no error.
func fit(t *testing.T, l []ratio.Ratio, degree int, want string) {
	t.Helper()
	got, err := cast.Fit(l, degree)
	if text := ratio.Words(got); err != nil || text != want {
		t.Errorf("Fit of %.300s, %d: %.300s, error %v, want %.300s", ratio.Words(l), degree, text, err, want)
	}
}

// refusedSmooth fails unless Smooth answers an error, and beside it nothing.
func refusedSmooth(t *testing.T, l []ratio.Ratio, part ratio.Ratio, want api.Errno) {
	t.Helper()
	got, err := cast.Smooth(l, part, ratio.Whole(3))
	says(t, err, want, "Smooth", len(l), part.Text())
	if got != nil {
		t.Errorf("Smooth of %d numbers, %s: %s beside an error", len(l), part.Text(), ratio.Words(got))
	}
}

// refusedTrend fails unless Trend answers an error, and beside it nothing.
func refusedTrend(t *testing.T, l []ratio.Ratio, part, slope ratio.Ratio, want api.Errno) {
	t.Helper()
	levels, trends, err := cast.Trend(l, part, slope, ratio.Whole(3), ratio.Whole(4))
	says(t, err, want, "Trend", len(l), part.Text(), slope.Text())
	if levels != nil || trends != nil {
		t.Errorf("Trend of %d numbers, %s, %s: %s, %s beside an error", len(l), part.Text(), slope.Text(), ratio.Words(levels), ratio.Words(trends))
	}
}

// refusedKalman fails unless Kalman answers an error, and beside it nothing.
func refusedKalman(t *testing.T, l []cast.Look, s cast.State, want api.Errno, what ...any) {
	t.Helper()
	got, err := cast.Kalman(l, s)
	says(t, err, want, "Kalman", what, stateWords(s), lookWords(l))
	if got != nil {
		t.Errorf("Kalman %v: %s beside an error", what, stateWords(got...))
	}
}

// refusedInform fails unless Inform answers an error, and beside it nothing.
func refusedInform(t *testing.T, l []cast.Look, s cast.State, want api.Errno, what ...any) {
	t.Helper()
	got, err := cast.Inform(l, s)
	says(t, err, want, "Inform", what, stateWords(s), lookWords(l))
	if got != nil {
		t.Errorf("Inform %v: %s beside an error", what, stateWords(got...))
	}
}

// refusedFit fails unless Fit answers an error, and beside it nothing.
func refusedFit(t *testing.T, l []ratio.Ratio, degree int, want api.Errno) {
	t.Helper()
	got, err := cast.Fit(l, degree)
	says(t, err, want, "Fit", len(l), degree)
	if got != nil {
		t.Errorf("Fit of %d numbers, %d: %s beside an error", len(l), degree, ratio.Words(got))
	}
}
