package risk_test

import (
	"math/big"
	"math/rand"
	"slices"
	"strings"
	"testing"

	"foresight/api"
	"foresight/ratio"
	"foresight/risk"
)

// The document's bounds.
const (
	mostParts = 10
	mostGates = 20
	mostOn    = 20
)

// tiny is the least fraction above 0 that Parse reads.
var tiny = "1/" + strings.Repeat("9", api.MaxDigits)

// one is the fraction of a text that must be one. A tilde is tiny.
func one(t *testing.T, text string) ratio.Ratio {
	t.Helper()
	a, err := ratio.Parse(strings.ReplaceAll(text, "~", tiny))
	if err != nil {
		t.Fatalf("Parse(%q): %v", text, err)
	}
	return a
}

// part is a fraction of two numbers.
func part(over, under int) ratio.Ratio {
	out, _ := ratio.Of(over, under)
	return out
}

// fractions reads them, apart by spaces.
func fractions(t *testing.T, text string) []ratio.Ratio {
	t.Helper()
	var out []ratio.Ratio
	for word := range strings.FieldsSeq(text) {
		out = append(out, one(t, word))
	}
	return out
}

// gate is one that needs at least so many of these.
func gate(least int, on ...int) risk.Gate { return risk.Gate{Least: least, On: on} }

// all and some are gates that need each of these, or any.
func all(on ...int) risk.Gate  { return gate(len(on), on...) }
func some(on ...int) risk.Gate { return gate(1, on...) }

// example is the document's: two of the first three, or the fourth.
func example() []risk.Gate { return []risk.Gate{gate(2, 0, 1, 2), some(-1, 3)} }

// bridge works over 0 and 1, over 2 and 3, or across 4 from one to the other.
func bridge() []risk.Gate {
	return []risk.Gate{all(0, 1), all(2, 3), all(0, 4, 3), all(2, 4, 1), some(-1, -2, -3, -4)}
}

// plain is so many gates that may be, each on the one ahead of it, over any
// number of parts.
func plain(n int) []risk.Gate {
	l := []risk.Gate{some(0)}
	for i := 1; i < n; i++ {
		l = append(l, some(-i, 0))
	}
	return l
}

// drawn is so many gates over so many parts that look drawn; some name one
// thing twice, or nothing at all.
func drawn(die *rand.Rand, parts, gates int) []risk.Gate {
	var out []risk.Gate
	for ahead := range gates {
		var g risk.Gate
		for range die.Intn(7) {
			g.On = append(g.On, die.Intn(parts+ahead)-ahead)
		}
		if ahead > 0 {
			g.On = append(g.On, -ahead)
		}
		g.Least = die.Intn(len(g.On) + 1)
		if die.Intn(4) > 0 {
			g.Least = (1 + g.Least + len(g.On)) / 3
		}
		out = append(out, g)
	}
	return out
}

// drawnChances are so many that look drawn, noughts and ones among them.
func drawnChances(die *rand.Rand, n int) []ratio.Ratio {
	var out []ratio.Ratio
	for range n {
		under := 1 + die.Intn(9)
		out = append(out, part(die.Intn(under+1), under))
	}
	return out
}

// holds says whether a gate works, by the words: asked of the gates ahead of
// it each time anew.
func holds(l []risk.Gate, at int, parts []bool) bool {
	many := 0
	for _, name := range l[at].On {
		if name < 0 {
			if holds(l, -1-name, parts) {
				many++
			}
		} else if parts[name] {
			many++
		}
	}
	return many >= l[at].Least
}

// inSet is, part by part, whether it is in a set.
func inSet(parts, set int) []bool {
	out := make([]bool, parts)
	for i := range out {
		out[i] = set%2 == 1
		set /= 2
	}
	return out
}

// table is, set by set, whether the whole works with those parts alone.
func table(l []risk.Gate, parts int) []bool {
	out := make([]bool, 1<<parts)
	for set := range out {
		out[set] = holds(l, len(l)-1, inSet(parts, set))
	}
	return out
}

// weighed is Chance by the words: the sum over all sets with which the whole
// works of how likely just these work, by the library.
func weighed(t *testing.T, works []bool, p []ratio.Ratio) *big.Rat {
	t.Helper()
	var does, not []*big.Rat
	for _, a := range p {
		does = append(does, known(t, a))
		not = append(not, new(big.Rat).Sub(big.NewRat(1, 1), known(t, a)))
	}
	sum := new(big.Rat)
	for set, so := range works {
		if !so {
			continue
		}
		just := big.NewRat(1, 1)
		for i, is := range inSet(len(p), set) {
			if is {
				just.Mul(just, does[i])
			} else {
				just.Mul(just, not[i])
			}
		}
		sum.Add(sum, just)
	}
	return sum
}

// known is a fraction as the library has it.
func known(t *testing.T, a ratio.Ratio) *big.Rat {
	t.Helper()
	r, ok := new(big.Rat).SetString(a.Text())
	if !ok {
		t.Fatalf("no fraction: %q", a.Text())
	}
	return r
}

// says fails unless an error is that Errno itself, as no place belongs to it.
func says(t *testing.T, err error, want api.Errno, what ...any) {
	t.Helper()
	if want == api.OK && err == nil {
		return
	}
	if err != error(want) {
		t.Errorf("%.300v: error %v, want %v", what, err, want)
	}
}

// works fails unless Works is as wanted, with no error.
func works(t *testing.T, l []risk.Gate, parts []bool, want bool) {
	t.Helper()
	got, err := risk.Works(l, parts)
	if err != nil || got != want {
		t.Errorf("Works of %v, %v: %v, error %v, want %v", l, parts, got, err, want)
	}
}

// chance fails unless Chance is as wanted, with no error.
func chance(t *testing.T, l []risk.Gate, p []ratio.Ratio, want string) {
	t.Helper()
	got, err := risk.Chance(l, p)
	if err != nil || got.Text() != want {
		t.Errorf("Chance of %v, %.300s: %.300s, error %v, want %.300s", l, ratio.Words(p), got.Text(), err, want)
	}
}

// counts fails unless Counts are as wanted, with no error.
func counts(t *testing.T, l []risk.Gate, p []ratio.Ratio, want string) {
	t.Helper()
	got, err := risk.Counts(l, p)
	if text := ratio.Words(got); err != nil || text != want {
		t.Errorf("Counts of %v, %.300s: %.300s, error %v, want %.300s", l, ratio.Words(p), text, err, want)
	}
}

// sets fails unless Paths and Cuts are as wanted, with no error.
func sets(t *testing.T, parts int, l []risk.Gate, paths, cuts []int) {
	t.Helper()
	got, err := risk.Paths(parts, l)
	if err != nil || !slices.Equal(got, paths) {
		t.Errorf("Paths of %d, %v: %v, error %v, want %v", parts, l, got, err, paths)
	}
	got, err = risk.Cuts(parts, l)
	if err != nil || !slices.Equal(got, cuts) {
		t.Errorf("Cuts of %d, %v: %v, error %v, want %v", parts, l, got, err, cuts)
	}
}

// row fails unless Row is as wanted, with no error.
func row(t *testing.T, n, beside int, p ratio.Ratio, want string) {
	t.Helper()
	got, err := risk.Row(n, beside, p)
	if err != nil || got.Text() != want {
		t.Errorf("Row(%d, %d, %.100s): %.300s, error %v, want %.300s", n, beside, p.Text(), got.Text(), err, want)
	}
}

// refusedChances fails unless Chance and Counts answer an error, and beside it
// nothing.
func refusedChances(t *testing.T, l []risk.Gate, p []ratio.Ratio, want api.Errno, what ...any) {
	t.Helper()
	got, err := risk.Chance(l, p)
	says(t, err, want, "Chance", what)
	if got.Sign() != 0 {
		t.Errorf("Chance %v: %s beside an error", what, got.Text())
	}
	many, err := risk.Counts(l, p)
	says(t, err, want, "Counts", what)
	if many != nil {
		t.Errorf("Counts %v: %s beside an error", what, ratio.Words(many))
	}
}

// refused fails unless all say one thing of gates that may not be, whatever
// else is wrong.
func refused(t *testing.T, parts int, l []risk.Gate, want api.Errno, what ...any) {
	t.Helper()
	says(t, risk.Check(parts, l), want, "Check", what)
	for _, ask := range []func(int, []risk.Gate) ([]int, error){risk.Paths, risk.Cuts} {
		got, err := ask(parts, l)
		says(t, err, want, "sets", what)
		if got != nil {
			t.Errorf("%v: %v beside an error", what, got)
		}
	}
	if parts < 0 || parts > 100 {
		return // no list is as long as that
	}
	for _, does := range []bool{false, true} {
		got, err := risk.Works(l, slices.Repeat([]bool{does}, parts))
		says(t, err, want, "Works", what)
		if got {
			t.Errorf("Works %v: %v beside an error", what, got)
		}
	}
	for _, p := range []ratio.Ratio{{}, part(1, 2), part(1, 1), part(-1, 2), part(3, 2)} {
		refusedChances(t, l, slices.Repeat([]ratio.Ratio{p}, parts), want, what)
	}
}

// refusedRow fails unless Row answers an error, and beside it 0.
func refusedRow(t *testing.T, n, beside int, p ratio.Ratio, want api.Errno) {
	t.Helper()
	got, err := risk.Row(n, beside, p)
	says(t, err, want, "Row", n, beside, p.Text())
	if got.Sign() != 0 {
		t.Errorf("Row(%d, %d, %s): %s beside an error", n, beside, p.Text(), got.Text())
	}
}
