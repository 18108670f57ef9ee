package stop_test

import (
	"math/big"
	"math/rand"
	"slices"
	"strings"
	"testing"

	"foresight/api"
	"foresight/ratio"
	"foresight/stop"
)

// mostTimes is the document's bound on times to go and offers to come.
const mostTimes = 20

// tiny is the least fraction above 0 that Parse reads.
var tiny = "1/" + strings.Repeat("9", api.MaxDigits)

// one is the fraction of a text that must be one. A tilde is tiny.
func one(t *testing.T, text string) ratio.Ratio {
	t.Helper()
	a, err := ratio.Parse(strings.ReplaceAll(text, "~", tiny))
	if err != nil {
		t.Fatalf("Parse(%q): %v", text, err)
	}
	return a
}

// part is a fraction of two numbers.
func part(over, under int) ratio.Ratio {
	out, _ := ratio.Of(over, under)
	return out
}

// list reads fractions, apart by spaces.
func list(t *testing.T, text string) []ratio.Ratio {
	t.Helper()
	var out []ratio.Ratio
	for word := range strings.FieldsSeq(text) {
		out = append(out, one(t, word))
	}
	return out
}

// flags reads a row of y and n.
func flags(text string) []bool {
	var out []bool
	for _, letter := range text {
		out = append(out, letter == 'y')
	}
	return out
}

// flagged writes flags as flags reads them.
func flagged(l []bool) string {
	out := ""
	for _, yes := range l {
		if yes {
			out += "y"
		} else {
			out += "n"
		}
	}
	return out
}

// chain reads the rows of Next, apart by semicolons, Take and Cost.
func chain(t *testing.T, next, take, cost string) stop.Chain {
	t.Helper()
	c := stop.Chain{Take: list(t, take), Cost: one(t, cost)}
	for row := range strings.SplitSeq(next, ";") {
		c.Next = append(c.Next, list(t, row))
	}
	return c
}

// joined writes rows of fractions, apart by semicolons.
func joined(l [][]ratio.Ratio) string {
	var out []string
	for _, row := range l {
		out = append(out, ratio.Words(row))
	}
	return strings.Join(out, "; ")
}

// written writes a chain.
func written(c stop.Chain) string {
	return joined(c.Next) + " | " + ratio.Words(c.Take) + " | " + c.Cost.Text()
}

// sure is a row of so many states by which one of them is certain.
func sure(states, state int) []ratio.Ratio {
	out := make([]ratio.Ratio, states)
	out[state] = ratio.Whole(1)
	return out
}

// ring is a chain of so many states, from each one to the next one.
func ring(states int) stop.Chain {
	c := stop.Chain{Cost: part(1, 3)}
	for s := range states {
		c.Next = append(c.Next, sure(states, (s+1)%states))
		c.Take = append(c.Take, ratio.Whole(s*s))
	}
	return c
}

// like is so many like things.
func like[T any](n int, a T) []T {
	out := make([]T, n)
	for i := range out {
		out[i] = a
	}
	return out
}

// shares is so many fractions that are 1 together and look drawn, many of them
// 0.
func shares(die *rand.Rand, n int) []ratio.Ratio {
	weights, all := make([]int, n), 0
	for i := range weights {
		weights[i] = max(0, die.Intn(8)-4)
		all += weights[i]
	}
	if all == 0 {
		weights[die.Intn(n)], all = 1, 1
	}
	out := make([]ratio.Ratio, n)
	for i, w := range weights {
		out[i] = part(w, all)
	}
	return out
}

// drawn is a chain of so many states that looks drawn. What one may take is
// often alike, so that to take and to go on are, too; to go on may cost less
// than nothing.
func drawn(die *rand.Rand, states int) stop.Chain {
	c := stop.Chain{Cost: part(max(0, die.Intn(5)-2), 1+die.Intn(3))}
	if die.Intn(6) == 0 {
		c.Cost = part(-1, 1+die.Intn(4))
	}
	for range states {
		c.Next = append(c.Next, shares(die, states))
		c.Take = append(c.Take, part(die.Intn(9)-4, 1+die.Intn(2)))
	}
	return c
}

// known is a fraction as the library has it.
func known(t *testing.T, a ratio.Ratio) *big.Rat {
	t.Helper()
	out, ok := new(big.Rat).SetString(a.Text())
	if !ok {
		t.Fatalf("no fraction: %q", a.Text())
	}
	return out
}

// allKnown is fractions as the library has them.
func allKnown(t *testing.T, l []ratio.Ratio) []*big.Rat {
	t.Helper()
	var out []*big.Rat
	for _, a := range l {
		out = append(out, known(t, a))
	}
	return out
}

// words is fractions of the library, as ratio tells them.
func words(l []*big.Rat) string {
	var out []string
	for _, a := range l {
		out = append(out, a.RatString())
	}
	return strings.Join(out, " ")
}

// on is 14.1's going on from each state, by the library.
func on(t *testing.T, c stop.Chain, v []*big.Rat) []*big.Rat {
	t.Helper()
	var out []*big.Rat
	for _, row := range c.Next {
		mean := new(big.Rat)
		for k, share := range row {
			mean.Add(mean, new(big.Rat).Mul(known(t, share), v[k]))
		}
		out = append(out, mean.Sub(mean, known(t, c.Cost)))
	}
	return out
}

// followed is what states are worth, by the library, with as many times to go
// as there are plans: with one to go one takes in the states of the first plan,
// with two in those of the second, and so on; with none in each.
func followed(t *testing.T, c stop.Chain, plans ...[]bool) []*big.Rat {
	t.Helper()
	take := allKnown(t, c.Take)
	v := take
	for _, takes := range plans {
		ahead := on(t, c, v)
		for s, yes := range takes {
			if yes {
				ahead[s] = take[s]
			}
		}
		v = ahead
	}
	return v
}

// sets is all lists of so many flags.
func sets(n int) [][]bool {
	out := make([][]bool, 1<<n)
	for set := range out {
		out[set] = make([]bool, n)
		for i := range n {
			out[set][i] = set>>i&1 == 1
		}
	}
	return out
}

// most is the greatest of each place.
func most(rows [][]*big.Rat) []*big.Rat {
	out := slices.Clone(rows[0])
	for _, row := range rows {
		for i, a := range row {
			if a.Cmp(out[i]) > 0 {
				out[i] = a
			}
		}
	}
	return out
}

// says fails unless an error is that Errno itself, as no place belongs to it.
func says(t *testing.T, err error, want api.Errno, what ...any) {
	t.Helper()
	if want == api.OK && err == nil {
		return
	}
	if err != error(want) {
		t.Errorf("%v: error %v, want %v", what, err, want)
	}
}

// is fails unless a fraction is as wanted, with no error.
func is(t *testing.T, got ratio.Ratio, err error, want string, what ...any) {
	t.Helper()
	if err != nil || got.Text() != want {
		t.Errorf("%v: %s, error %v, want %s", what, got.Text(), err, want)
	}
}

// are fails unless fractions are as wanted, with no error.
func are(t *testing.T, got []ratio.Ratio, err error, want string, what ...any) {
	t.Helper()
	if text := ratio.Words(got); err != nil || text != want {
		t.Errorf("%v: %.300q, error %v, want %.300q", what, text, err, want)
	}
}

// refused fails unless all that asks a chain says one thing of it, whatever is
// wrong beside it that is told later.
func refused(t *testing.T, c stop.Chain, want api.Errno, what ...any) {
	t.Helper()
	says(t, stop.Check(c), want, "Check", what)
	for _, times := range []int{0, 1, -1, mostTimes + 1} {
		refusedTimes(t, c, times, want, what...)
	}
}

// refusedTimes fails unless Envelope, Takes and Follow say one thing of a chain
// and so many times, whatever is wrong beside it that is told later.
func refusedTimes(t *testing.T, c stop.Chain, times int, want api.Errno, what ...any) {
	t.Helper()
	rows, err := stop.Envelope(c, times)
	says(t, err, want, "Envelope", times, what)
	takes, other := stop.Takes(c, times)
	says(t, other, want, "Takes", times, what)
	if len(rows) != 0 || len(takes) != 0 {
		t.Errorf("%v: %s and %v beside an error", what, joined(rows), takes)
	}
	for _, n := range []int{len(c.Next), 0, len(c.Next) + 1} {
		v, err := stop.Follow(c, times, make([]bool, n))
		says(t, err, want, "Follow", times, n, what)
		if len(v) != 0 {
			t.Errorf("%v: %s beside an error", what, ratio.Words(v))
		}
	}
}
