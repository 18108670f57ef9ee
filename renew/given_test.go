package renew_test

import (
	"math/big"
	"math/rand"
	"slices"
	"strconv"
	"strings"
	"testing"

	"foresight/api"
	"foresight/chance"
	"foresight/ratio"
	"foresight/renew"
)

// tiny is the least fraction above 0 that Parse reads.
var tiny = "1/" + strings.Repeat("9", api.MaxDigits)

// one is the fraction of a text that must be one. A tilde is tiny.
func one(t *testing.T, text string) ratio.Ratio {
	t.Helper()
	a, err := ratio.Parse(strings.ReplaceAll(text, "~", tiny))
	if err != nil {
		t.Fatalf("Parse(%q): %v", text, err)
	}
	return a
}

// part is a fraction of two numbers.
func part(over, under int) ratio.Ratio {
	out, _ := ratio.Of(over, under)
	return out
}

// law reads fractions, apart by spaces.
func law(t *testing.T, text string) chance.Law {
	t.Helper()
	var out chance.Law
	for word := range strings.FieldsSeq(text) {
		out = append(out, one(t, word))
	}
	return out
}

// example is the document's: what fails at 1, 2 or 3.
const example = "0 1/4 1/4 1/2"

// sure is the law of an age that is certain.
func sure(age int) chance.Law { return append(make(chance.Law, age), ratio.Whole(1)) }

// even is a law of so many ages, from 1 on, all as likely.
func even(n int) chance.Law {
	return append(chance.Law{{}}, slices.Repeat(chance.Law{part(1, n)}, n)...)
}

// drawn is a law that looks drawn, of ages from 1 to at most so many, with
// noughts among them, at its end, too.
func drawn(die *rand.Rand, most int) chance.Law {
	weights, all := make([]int, 1+die.Intn(most)), 0
	for i := range weights {
		weights[i] = max(0, die.Intn(8)-2)
	}
	weights[die.Intn(len(weights))]++
	for _, w := range weights {
		all += w
	}
	out := chance.Law{{}}
	for _, w := range weights {
		out = append(out, part(w, all))
	}
	return out
}

// long is a law with fractions of many digits, each its own, near those of l;
// it doesn't end with 0.
func long(t *testing.T, l chance.Law) chance.Law {
	t.Helper()
	out, left := slices.Clone(l), ratio.Whole(1)
	for age := range len(out) - 1 {
		under := strings.Repeat("9", api.MaxDigits-3) + strconv.Itoa(100+age)
		out[age] = out[age].Mul(ratio.Whole(1).Sub(one(t, "1/"+under)))
		left = left.Sub(out[age])
	}
	out[len(out)-1] = left
	return out
}

// known is a fraction as the library has it.
func known(t *testing.T, a ratio.Ratio) *big.Rat {
	t.Helper()
	r, ok := new(big.Rat).SetString(a.Text())
	if !ok {
		t.Fatalf("no fraction: %q", a.Text())
	}
	return r
}

// whole is a number as the library's fraction.
func whole(n int) *big.Rat { return big.NewRat(int64(n), 1) }

// shares is a law as the library has it.
func shares(t *testing.T, l chance.Law) []*big.Rat {
	t.Helper()
	var out []*big.Rat
	for _, share := range l {
		out = append(out, known(t, share))
	}
	return out
}

// words is fractions of the library, as ratio tells them.
func words(l []*big.Rat) string {
	var out []string
	for _, a := range l {
		out = append(out, a.RatString())
	}
	return strings.Join(out, " ")
}

// says fails unless an error is that Errno itself, as no place belongs to it.
func says(t *testing.T, err error, want api.Errno, what ...any) {
	t.Helper()
	if want == api.OK && err == nil {
		return
	}
	if err != error(want) {
		t.Errorf("%.300v: error %v, want %v", what, err, want)
	}
}

// comes fails unless Comes, and Many, are as wanted, with no error.
func comes(t *testing.T, l chance.Law, upTo int, want, many string) {
	t.Helper()
	got, err := renew.Comes(l, upTo)
	if text := ratio.Words(got); err != nil || text != want {
		t.Errorf("Comes of %.300s, %d: %.300s, error %v, want %.300s", ratio.Words(l), upTo, text, err, want)
	}
	got, err = renew.Many(l, upTo)
	if text := ratio.Words(got); err != nil || text != many {
		t.Errorf("Many of %.300s, %d: %.300s, error %v, want %.300s", ratio.Words(l), upTo, text, err, many)
	}
}

// left fails unless Left is as wanted, with no error.
func left(t *testing.T, l chance.Law, want string) {
	t.Helper()
	got, err := renew.Left(l)
	if text := ratio.Words(got); err != nil || text != want {
		t.Errorf("Left of %.300s: %.300s, error %v, want %.300s", ratio.Words(l), text, err, want)
	}
}

// cost fails unless Cost is as wanted, with no error.
func cost(t *testing.T, l chance.Law, failed, planned ratio.Ratio, age int, want string) {
	t.Helper()
	got, err := renew.Cost(l, failed, planned, age)
	if text := got.Text(); err != nil || text != want {
		t.Errorf("Cost of %.300s, %s, %s, %d: %.300s, error %v, want %.300s", ratio.Words(l), failed.Text(), planned.Text(), age, text, err, want)
	}
}

// age fails unless Age is as wanted, with no error.
func age(t *testing.T, l chance.Law, failed, planned ratio.Ratio, best int, want string) {
	t.Helper()
	n, got, err := renew.Age(l, failed, planned)
	if text := got.Text(); err != nil || n != best || text != want {
		t.Errorf("Age of %.300s, %s, %s: %d, %.300s, error %v, want %d, %.300s", ratio.Words(l), failed.Text(), planned.Text(), n, text, err, best, want)
	}
}

// refusedTime fails unless Comes and Many answer an error, and beside it
// nothing.
func refusedTime(t *testing.T, l chance.Law, upTo int, want api.Errno, what ...any) {
	t.Helper()
	got, err := renew.Comes(l, upTo)
	says(t, err, want, "Comes", what, upTo)
	many, also := renew.Many(l, upTo)
	says(t, also, want, "Many", what, upTo)
	if got != nil || many != nil {
		t.Errorf("%v, %d: %s, %s beside an error", what, upTo, ratio.Words(got), ratio.Words(many))
	}
}

// refusedCost fails unless Cost answers an error, and beside it 0.
func refusedCost(t *testing.T, l chance.Law, failed, planned ratio.Ratio, age int, want api.Errno, what ...any) {
	t.Helper()
	got, err := renew.Cost(l, failed, planned, age)
	says(t, err, want, "Cost", what, failed.Text(), planned.Text(), age)
	if got.Sign() != 0 {
		t.Errorf("Cost %v, %d: %s beside an error", what, age, got.Text())
	}
}

// refusedAge fails unless Age answers an error, and beside it noughts.
func refusedAge(t *testing.T, l chance.Law, failed, planned ratio.Ratio, want api.Errno, what ...any) {
	t.Helper()
	n, got, err := renew.Age(l, failed, planned)
	says(t, err, want, "Age", what, failed.Text(), planned.Text())
	if n != 0 || got.Sign() != 0 {
		t.Errorf("Age %v: %d, %s beside an error", what, n, got.Text())
	}
}
