package store_test

import (
	"math/big"
	"math/rand"
	"strings"
	"testing"

	"foresight/api"
	"foresight/chance"
	"foresight/ratio"
)

// one is the fraction of a text that must be one.
func one(t *testing.T, text string) ratio.Ratio {
	t.Helper()
	a, err := ratio.Parse(text)
	if err != nil {
		t.Fatalf("Parse(%q): %v", text, err)
	}
	return a
}

// law reads fractions, apart by spaces.
func law(t *testing.T, text string) chance.Law {
	t.Helper()
	var out chance.Law
	for word := range strings.FieldsSeq(text) {
		out = append(out, one(t, word))
	}
	return out
}

// part is a fraction of two numbers.
func part(over, under int) ratio.Ratio {
	out, _ := ratio.Of(over, under)
	return out
}

// even is a law of so many like numbers.
func even(n int) chance.Law {
	out := make(chance.Law, n)
	for i := range out {
		out[i] = part(1, n)
	}
	return out
}

// noughts is so many numbers of 0.
func noughts(n int) chance.Law { return make(chance.Law, n) }

// sure is the law of an amount that is certain.
func sure(amount int) chance.Law { return append(noughts(amount), ratio.Whole(1)) }

// known is fractions as the library has them.
func known(t *testing.T, l ...ratio.Ratio) []*big.Rat {
	t.Helper()
	var out []*big.Rat
	for _, a := range l {
		r, ok := new(big.Rat).SetString(a.Text())
		if !ok {
			t.Fatalf("no fraction: %q", a.Text())
		}
		out = append(out, r)
	}
	return out
}

// words is fractions of the library, as ratio tells them.
func words(l []*big.Rat) string {
	var out []string
	for _, a := range l {
		out = append(out, a.RatString())
	}
	return strings.Join(out, " ")
}

// whole is a number as the library's fraction.
func whole(n int) *big.Rat { return big.NewRat(int64(n), 1) }

// weights is up to so many numbers that look drawn, noughts among them, at
// least one above 0.
func weights(die *rand.Rand, most int) []int {
	out := make([]int, 1+die.Intn(most))
	for i := range out {
		out[i] = max(0, die.Intn(6)-2)
	}
	out[die.Intn(len(out))]++
	return out
}

// shared is the law of weights, and their sum.
func shared(weights []int) (chance.Law, int) {
	all := 0
	for _, w := range weights {
		all += w
	}
	l := make(chance.Law, len(weights))
	for i, w := range weights {
		l[i] = part(w, all)
	}
	return l, all
}

// odd is a law of so many numbers with lower ones of many digits, each its own.
func odd(t *testing.T, n int) chance.Law {
	t.Helper()
	var l chance.Law
	left := ratio.Whole(1)
	for i := range n - 1 {
		under := strings.Repeat("9", api.MaxDigits-1) + string([]byte{byte('0' + i%10)})
		share := one(t, "1/"+under).Add(part(1, n+i))
		l = append(l, share)
		left = left.Sub(share)
	}
	return append(l, left)
}

// bad is a list that is no law, and what chance's Check says of it.
type bad struct {
	name string
	l    chance.Law
	want api.Errno
}

// wrong is lists that are no laws, those with several errors among them, of
// few numbers and of many.
func wrong(t *testing.T) []bad {
	t.Helper()
	return []bad{
		{"nil", nil, api.ErrLimit},
		{"no numbers", chance.Law{}, api.ErrLimit},
		{"MaxSize + 2 numbers", even(api.MaxSize + 2), api.ErrLimit},
		{"MaxSize + 2 numbers, one below 0", append(law(t, "-1/2 1 1/2"), noughts(api.MaxSize-1)...), api.ErrLimit},
		{"one below 0", law(t, "-1/2 1 1/2"), api.ErrArg},
		{"the last below 0", law(t, "1/2 1 -1/2"), api.ErrArg},
		{"below 0, and not 1 together", law(t, "1/2 -1/3 1/2"), api.ErrArg},
		{"10 numbers, one below 0", append(law(t, "-1/2 1 1/2"), noughts(7)...), api.ErrArg},
		{"a nought", law(t, "0"), api.ErrSum},
		{"above 1 together", law(t, "1/2 1/2 1/1000000"), api.ErrSum},
		{"below 1 together", law(t, "1/3 1/3 333333/1000000"), api.ErrSum},
		{"10 numbers, below 1 together", noughts(10), api.ErrSum},
	}
}

// says fails unless an error is that Errno itself, as no place belongs to it.
func says(t *testing.T, err error, want api.Errno, what ...any) {
	t.Helper()
	if want == api.OK && err == nil {
		return
	}
	if err != error(want) {
		t.Errorf("%v: error %v, want %v", what, err, want)
	}
}

// is fails unless a fraction is as wanted, with no error.
func is(t *testing.T, got ratio.Ratio, err error, want string, what ...any) {
	t.Helper()
	if err != nil || got.Text() != want {
		t.Errorf("%v: %.300s, error %v, want %.300s", what, got.Text(), err, want)
	}
}
