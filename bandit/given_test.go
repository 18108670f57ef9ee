package bandit_test

import (
	"math/big"
	"math/rand"
	"strings"
	"testing"

	"foresight/api"
	"foresight/bandit"
	"foresight/ratio"
)

// The document's bounds on states of an arm, and on pulls.
const (
	mostStates = 5
	mostTimes  = 12
)

// tiny is the least fraction above 0 that Parse reads.
var tiny = "1/" + strings.Repeat("9", api.MaxDigits)

// one is the fraction of a text that must be one. A tilde is tiny.
func one(t *testing.T, text string) ratio.Ratio {
	t.Helper()
	a, err := ratio.Parse(strings.ReplaceAll(text, "~", tiny))
	if err != nil {
		t.Fatalf("Parse(%q): %v", text, err)
	}
	return a
}

// part is a fraction of two numbers.
func part(over, under int) ratio.Ratio {
	out, _ := ratio.Of(over, under)
	return out
}

// list reads fractions, apart by spaces.
func list(t *testing.T, text string) []ratio.Ratio {
	t.Helper()
	var out []ratio.Ratio
	for word := range strings.FieldsSeq(text) {
		out = append(out, one(t, word))
	}
	return out
}

// flags reads a row of y and n.
func flags(text string) []bool {
	var out []bool
	for _, letter := range text {
		out = append(out, letter == 'y')
	}
	return out
}

// arm reads Pay, and behind a line the rows of Next, apart by semicolons.
func arm(t *testing.T, text string) bandit.Arm {
	t.Helper()
	pay, next, _ := strings.Cut(text, "|")
	a := bandit.Arm{Pay: list(t, pay)}
	for row := range strings.SplitSeq(next, ";") {
		a.Next = append(a.Next, list(t, row))
	}
	return a
}

// written writes an arm as arm reads it.
func written(a bandit.Arm) string {
	var rows []string
	for _, row := range a.Next {
		rows = append(rows, ratio.Words(row))
	}
	return ratio.Words(a.Pay) + " | " + strings.Join(rows, "; ")
}

// sure is a row of so many states by which one of them is certain.
func sure(states, state int) []ratio.Ratio {
	out := make([]ratio.Ratio, states)
	out[state] = ratio.Whole(1)
	return out
}

// ring is an arm of so many states, from each one to the next one.
func ring(states int) bandit.Arm {
	var a bandit.Arm
	for s := range states {
		a.Pay = append(a.Pay, ratio.Whole(s*s))
		a.Next = append(a.Next, sure(states, (s+1)%states))
	}
	return a
}

// like is so many like things.
func like[T any](n int, a T) []T {
	out := make([]T, n)
	for i := range out {
		out[i] = a
	}
	return out
}

// shares is so many fractions that are 1 together and look drawn, many of them
// 0.
func shares(die *rand.Rand, n int) []ratio.Ratio {
	weights, all := make([]int, n), 0
	for i := range weights {
		weights[i] = max(0, die.Intn(8)-4)
		all += weights[i]
	}
	if all == 0 {
		weights[die.Intn(n)], all = 1, 1
	}
	out := make([]ratio.Ratio, n)
	for i, w := range weights {
		out[i] = part(w, all)
	}
	return out
}

// drawn is an arm of so many states that looks drawn, its pays around 0, many
// of them alike.
func drawn(die *rand.Rand, states int) bandit.Arm {
	var a bandit.Arm
	for range states {
		a.Pay = append(a.Pay, part(die.Intn(13)-6, 1+die.Intn(2)))
		a.Next = append(a.Next, shares(die, states))
	}
	return a
}

// drawnWorth is a worth that looks drawn, sometimes 0.
func drawnWorth(die *rand.Rand) ratio.Ratio { return part(die.Intn(7), 7) }

// long puts fractions of many digits into an arm that stays one.
func long(t *testing.T, a bandit.Arm) bandit.Arm {
	t.Helper()
	least := one(t, "~")
	for s := range a.Pay {
		a.Pay[s] = a.Pay[s].Add(least.Mul(ratio.Whole(s + 1)))
	}
	a.Next[0] = like(len(a.Pay), part(1, len(a.Pay)))
	if len(a.Pay) > 1 {
		a.Next[0][0], a.Next[0][1] = a.Next[0][0].Add(least), a.Next[0][1].Sub(least)
	}
	return a
}

// sets is all lists of so many flags.
func sets(n int) [][]bool {
	out := make([][]bool, 1<<n)
	for set := range out {
		out[set] = make([]bool, n)
		for i := range n {
			out[set][i] = set>>i&1 == 1
		}
	}
	return out
}

// known is a fraction as the library has it.
func known(t *testing.T, a ratio.Ratio) *big.Rat {
	t.Helper()
	out, ok := new(big.Rat).SetString(a.Text())
	if !ok {
		t.Fatalf("no fraction: %q", a.Text())
	}
	return out
}

// chain is states that lead on to each other, each with what it brings, by the
// library.
type chain struct {
	pay  []*big.Rat
	next [][]*big.Rat
}

// chainOf is an arm as a chain.
func chainOf(t *testing.T, a bandit.Arm) chain {
	t.Helper()
	var out chain
	for s, pay := range a.Pay {
		out.pay = append(out.pay, known(t, pay))
		var row []*big.Rat
		for _, share := range a.Next[s] {
			row = append(row, known(t, share))
		}
		out.next = append(out.next, row)
	}
	return out
}

// total is all that a chain's states bring for ever, each time later worth so
// much: equations, solved by the library: each of them is used to clear its
// number out of all others.
func (c chain) total(worth *big.Rat) []*big.Rat {
	n := len(c.pay)
	rows := make([][]*big.Rat, n)
	for s := range rows {
		for k := range n {
			a := new(big.Rat).Mul(worth, c.next[s][k])
			if a.Neg(a); s == k {
				a.Add(a, big.NewRat(1, 1))
			}
			rows[s] = append(rows[s], a)
		}
		rows[s] = append(rows[s], new(big.Rat).Set(c.pay[s]))
	}
	// Of each row what is at its own place is more than all else of it
	// together, so it is never 0.
	for k := range n {
		by := new(big.Rat).Inv(rows[k][k])
		for j := range rows[k] {
			rows[k][j].Mul(rows[k][j], by)
		}
		for s := range n {
			times := new(big.Rat).Set(rows[s][k])
			if s == k || times.Sign() == 0 {
				continue
			}
			for j := range rows[s] {
				rows[s][j].Sub(rows[s][j], new(big.Rat).Mul(times, rows[k][j]))
			}
		}
	}
	out := make([]*big.Rat, n)
	for s := range out {
		out[s] = rows[s][n]
	}
	return out
}

// whiles is 15.2's While of each state, by the library.
func whiles(t *testing.T, a bandit.Arm, worth ratio.Ratio, some []bool) []*big.Rat {
	t.Helper()
	pays, times := chainOf(t, a), chainOf(t, a)
	for s := range some {
		times.pay[s] = big.NewRat(1, 1)
		for k, on := range some {
			if !on {
				pays.next[s][k], times.next[s][k] = new(big.Rat), new(big.Rat)
			}
		}
	}
	out := pays.total(known(t, worth))
	for s, time := range times.total(known(t, worth)) {
		out[s].Quo(out[s], time)
	}
	return out
}

// gittins is 15.2's Index, by the library: all sets of states are looked at.
func gittins(t *testing.T, a bandit.Arm, worth ratio.Ratio) []*big.Rat {
	t.Helper()
	var out []*big.Rat
	for i, some := range sets(len(a.Pay)) {
		for s, rate := range whiles(t, a, worth, some) {
			if i == 0 {
				out = append(out, rate)
			} else if rate.Cmp(out[s]) > 0 {
				out[s] = rate
			}
		}
	}
	return out
}

// words is fractions of the library, as ratio tells them.
func words(l []*big.Rat) string {
	var out []string
	for _, a := range l {
		out = append(out, a.RatString())
	}
	return strings.Join(out, " ")
}

// says fails unless an error is that Errno itself, as no place belongs to it.
func says(t *testing.T, err error, want api.Errno, what ...any) {
	t.Helper()
	if want == api.OK && err == nil {
		return
	}
	if err != error(want) {
		t.Errorf("%v: error %v, want %v", what, err, want)
	}
}

// nothing fails unless there is that error, and each number beside it is 0.
func nothing(t *testing.T, err error, want api.Errno, l []ratio.Ratio, what ...any) {
	t.Helper()
	says(t, err, want, what...)
	for _, a := range l {
		if a.Sign() != 0 {
			t.Errorf("%v: %s beside an error", what, ratio.Words(l))
		}
	}
}

// is fails unless a fraction is as wanted, with no error.
func is(t *testing.T, got ratio.Ratio, err error, want string, what ...any) {
	t.Helper()
	if err != nil || got.Text() != want {
		t.Errorf("%v: %.300s, error %v, want %.300s", what, got.Text(), err, want)
	}
}

// are fails unless fractions are as wanted, with no error.
func are(t *testing.T, got []ratio.Ratio, err error, want string, what ...any) {
	t.Helper()
	if text := ratio.Words(got); err != nil || text != want {
		t.Errorf("%v: %.300q, error %v, want %.300q", what, text, err, want)
	}
}
