package cast_test

import (
	"math/big"
	"math/rand"
	"testing"

	"foresight/api"
	"foresight/cast"
	"foresight/ratio"
)

// 23.3: by hand.
func TestFitByHand(t *testing.T) {
	// Of degree 0 it is the mean.
	fit(t, list(t, "5"), 0, "5")
	fit(t, list(t, "1 2 6"), 0, "3")
	fit(t, list(t, "1 2 6"), 1, "1/2 5/2")
	fit(t, list(t, "1 2 6"), 2, "1 -1/2 3/2")
	fit(t, list(t, "4 7"), 1, "4 3")
	fit(t, list(t, "0 1 4 9 16"), 2, "0 0 1")
	fit(t, list(t, "0 1 4 9 16"), 1, "-2 4")
	fit(t, list(t, "0 0 1 0 0"), 2, "-3/35 4/7 -1/7")
	fit(t, list(t, "0 0 1 0 0"), 4, "0 -3 19/4 -2 1/4")
	// As many coefficients as are asked for, even where they are 0.
	fit(t, list(t, "0 0 0 0 0"), 4, "0 0 0 0 0")
	fit(t, list(t, "2 2 2 2 2 2"), 3, "2 0 0 0")
	fit(t, list(t, "1/2 -1/3"), 0, "1/12")
	fit(t, list(t, "1/2 -1/3"), 1, "1/2 -5/6")
}

// value is that of a polynomial at t, each power by itself.
func value(coefficients []*big.Rat, at int) *big.Rat {
	out := new(big.Rat)
	for power, c := range coefficients {
		out = sum(out, product(c, raised(at, power)))
	}
	return out
}

// raised is a number's power.
func raised(at, power int) *big.Rat {
	out := whole(1)
	for range power {
		out = product(out, whole(at))
	}
	return out
}

// squares is the sum of the squares of what numbers are less the values.
func squares(l, coefficients []*big.Rat) *big.Rat {
	out := new(big.Rat)
	for at, x := range l {
		rest := less(x, value(coefficients, at))
		out = sum(out, product(rest, rest))
	}
	return out
}

// fitted is the polynomial of the least squares, by the library: they are the
// least just where what is left of the numbers comes to 0, times each power up
// to the degree.
func fitted(t *testing.T, l []*big.Rat, degree int) []*big.Rat {
	t.Helper()
	rows := noughts(degree+1, degree+2)
	for at, x := range l {
		for i := range degree + 1 {
			for j := range degree + 1 {
				rows[i][j] = sum(rows[i][j], product(raised(at, i), raised(at, j)))
			}
			rows[i][degree+1] = sum(rows[i][degree+1], product(raised(at, i), x))
		}
	}
	return solved(rows)
}

// 23.3: drawn numbers, for each degree, from the fewest numbers on.
func TestFitDrawn(t *testing.T) {
	die := rand.New(rand.NewSource(1))
	for range 60 {
		for degree := range 5 {
			l := drawnList(die, degree+1+die.Intn(8))
			fit(t, l, degree, words(fitted(t, allKnown(t, l), degree)))
		}
	}
}

// 23.3: beside it, in whatever direction, the squares are more together.
func TestFitIsTheLeast(t *testing.T) {
	die := rand.New(rand.NewSource(2))
	for range 40 {
		degree := die.Intn(5)
		numbers := drawnList(die, degree+1+die.Intn(6))
		got, err := cast.Fit(numbers, degree)
		says(t, err, api.OK)
		l, best := allKnown(t, numbers), allKnown(t, got)
		if len(best) != degree+1 {
			t.Fatalf("%d coefficients, degree %d", len(best), degree)
		}
		low := squares(l, best)
		for range 30 {
			other := make([]*big.Rat, len(best))
			for i, c := range best {
				other[i] = sum(c, big.NewRat(int64(die.Intn(7)-3), int64(1+die.Intn(1000))))
			}
			// So that it is never just the same one.
			other[0] = sum(other[0], big.NewRat(1, 10007))
			if squares(l, other).Cmp(low) <= 0 {
				t.Errorf("Fit of %s, %d: %s, but %s is no farther", ratio.Words(numbers), degree, ratio.Words(got), words(other))
			}
		}
	}
}

// The values of a polynomial have just it, if it is of no greater degree; the
// more so, where there are as many numbers as coefficients.
func TestFitFindsPolynomials(t *testing.T) {
	die := rand.New(rand.NewSource(3))
	for range 60 {
		degree := die.Intn(5)
		want := make([]ratio.Ratio, degree+1)
		for i := range die.Intn(degree + 2) {
			want[i] = drawn(die)
		}
		n := degree + 1 + die.Intn(10)
		var l []ratio.Ratio
		for at := range n {
			l = append(l, one(t, value(allKnown(t, want), at).RatString()))
		}
		fit(t, l, degree, ratio.Words(want))
	}
}

// 23.3: as many numbers as there may be, some of many digits.
func TestFitOfMany(t *testing.T) {
	die := rand.New(rand.NewSource(4))
	l := drawnList(die, api.MaxSize)
	l[7], l[60] = one(t, "~"), one(t, "9999999999999999999999999999999999999999")
	l[99] = one(t, "-9999999999999999999999999999999999999999/9999999999999999999999999999999999999998")
	for degree := range 5 {
		fit(t, l, degree, words(fitted(t, allKnown(t, l), degree)))
	}
}
