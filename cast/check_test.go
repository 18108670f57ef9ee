package cast_test

import (
	"math"
	"slices"
	"testing"

	"foresight/api"
	"foresight/cast"
	"foresight/ratio"
)

// numbers is so many of them.
func numbers(n int) []ratio.Ratio {
	out := make([]ratio.Ratio, n)
	for i := range out {
		out[i] = ratio.Whole(i*i%7 - 2)
	}
	return out
}

// 23.1: how much of a number may count: ErrArg, unless it is from 0 to 1.
func TestPartWrong(t *testing.T) {
	wrong := list(t, "-1 -1/2 -~ 2 7/6 100 -100")
	just := ratio.Whole(1).Add(one(t, "~"))
	for _, n := range []int{0, 1, 5, api.MaxSize} {
		for _, bad := range append(wrong, just) {
			refusedSmooth(t, numbers(n), bad, api.ErrArg)
			for _, good := range list(t, "0 ~ 1/2 1") {
				refusedTrend(t, numbers(n), bad, good, api.ErrArg)
				refusedTrend(t, numbers(n), good, bad, api.ErrArg)
			}
			refusedTrend(t, numbers(n), bad, bad, api.ErrArg)
		}
	}
}

// 23.1: the ends, 0 and 1, may be, and what is just between them.
func TestPartRight(t *testing.T) {
	just := ratio.Whole(1).Sub(one(t, "~"))
	for _, n := range []int{0, 1, 2, api.MaxSize} {
		for _, a := range append(list(t, "0 ~ 1/3 1"), just) {
			for _, b := range append(list(t, "0 ~ 2/3 1"), just) {
				said, err := cast.Smooth(numbers(n), a, b)
				says(t, err, api.OK, "Smooth", n, a.Text())
				levels, trends, err := cast.Trend(numbers(n), a, b, b, a)
				says(t, err, api.OK, "Trend", n, a.Text(), b.Text())
				if len(said) != n || len(levels) != n || len(trends) != n {
					t.Errorf("%d numbers: %d, %d, %d", n, len(said), len(levels), len(trends))
				}
			}
		}
	}
}

// 23.1: ErrLimit, whatever else is wrong.
func TestTooMany(t *testing.T) {
	for _, n := range []int{api.MaxSize + 1, api.MaxSize + 2, 3 * api.MaxSize} {
		for _, a := range list(t, "-1 0 1/2 1 2") {
			refusedSmooth(t, numbers(n), a, api.ErrLimit)
			for _, b := range list(t, "-1 0 1/2 1 2") {
				refusedTrend(t, numbers(n), a, b, api.ErrLimit)
			}
		}
		for _, degree := range []int{math.MinInt, -1, 0, 4, 5, n - 1, n, n + 1, math.MaxInt} {
			refusedFit(t, numbers(n), degree, api.ErrLimit)
		}
		for _, kind := range []string{"1 1 3 1", "1 -1 3 1", "1 1 3 0", "1 1 3 -1", "0 0 3 1"} {
			for _, from := range []string{"0 0", "0 1", "0 -1"} {
				l := slices.Repeat(looks(t, kind), n)
				refusedKalman(t, l, state(t, from), api.ErrLimit, n)
				refusedInform(t, l, state(t, from), api.ErrLimit, n)
			}
		}
	}
}

// 23.2: ErrArg, if a look's Stir is below 0 or its Blur not above 0, or the
// spread at first below 0; at each look, and ahead of a spread that comes to 0.
func TestLooksWrong(t *testing.T) {
	for _, n := range []int{1, 2, 7, api.MaxSize} {
		for _, rest := range []string{"1 1 3 1", "0 0 3 1"} {
			for _, bad := range []string{"1 -1 3 1", "1 -~ 3 1", "0 -1 3 1", "1 1 3 0", "1 1 3 -1", "1 1 3 -~", "0 0 3 0", "1 -1 3 0", "1 -1 3 -1"} {
				for _, from := range []string{"2 0", "2 1", "2 -1"} {
					for _, at := range []int{0, n / 2, n - 1} {
						l := slices.Repeat(looks(t, rest), n)
						l[at] = looks(t, bad)[0]
						refusedKalman(t, l, state(t, from), api.ErrArg, at)
						refusedInform(t, l, state(t, from), api.ErrArg, at)
					}
				}
			}
		}
	}
	for _, l := range []string{"", "1 1 3 1", "0 0 3 1", "0 5 3 1", "1 9 3 1; 0 0 3 1"} {
		for _, from := range []string{"0 -1", "2 -~", "-3 -100"} {
			refusedKalman(t, looks(t, l), state(t, from), api.ErrArg)
			refusedInform(t, looks(t, l), state(t, from), api.ErrArg)
		}
	}
}

// 23.2: what is just not wrong.
func TestLooksRight(t *testing.T) {
	for _, l := range []string{"1 0 3 ~", "-1 ~ -3 ~", "0 ~ 0 ~", "-5 0 0 1; 3 1 1 1"} {
		for _, from := range []string{"0 ~", "-2 1"} {
			first, err := cast.Kalman(looks(t, l), state(t, from))
			says(t, err, api.OK, l, from)
			also, err := cast.Inform(looks(t, l), state(t, from))
			says(t, err, api.OK, l, from)
			if len(first) != len(looks(t, l)) || stateWords(first...) != stateWords(also...) {
				t.Errorf("%s from %s: %s, %s", l, from, stateWords(first...), stateWords(also...))
			}
		}
	}
}

// 23.2: Inform: ErrZero, if a p is 0, wherever that is; Kalman goes on there.
func TestNoSpread(t *testing.T) {
	for _, c := range []struct{ l, from string }{
		{"1 0 3 1", "2 0"},
		{"0 0 3 1", "2 5"},
		{"-2 0 3 1", "2 0"},
		{"1 1 3 1; 0 0 3 1", "2 0"},
		{"1 1 3 1; 0 0 3 1; 1 1 3 1", "2 1"},
		{"1 1 3 1; 1 1 3 1; 1 1 3 1; 0 0 3 1", "2 1"},
		{"0 0 3 1; 1 1 3 1", "2 1"},
		{"0 ~ 3 1; 0 0 3 1", "2 1"},
	} {
		refusedInform(t, looks(t, c.l), state(t, c.from), api.ErrZero)
		got, err := cast.Kalman(looks(t, c.l), state(t, c.from))
		says(t, err, api.OK, c.l, c.from)
		if len(got) != len(looks(t, c.l)) {
			t.Errorf("%s from %s: %d states", c.l, c.from, len(got))
		}
	}
	last := slices.Repeat(looks(t, "1 1 3 1"), api.MaxSize)
	last[api.MaxSize-1] = looks(t, "0 0 3 1")[0]
	refusedInform(t, last, state(t, "2 1"), api.ErrZero, "the last")
}

// 23.3: ErrRange, unless the degree is from 0 to 4; then ErrNone, unless there
// are more numbers than that.
func TestFitWrong(t *testing.T) {
	for _, n := range []int{0, 1, 3, 5, 6, api.MaxSize} {
		for _, degree := range []int{math.MinInt, -100, -1, 5, 6, api.MaxSize, math.MaxInt} {
			refusedFit(t, numbers(n), degree, api.ErrRange)
		}
	}
	for degree := range 5 {
		for n := range degree + 1 {
			refusedFit(t, numbers(n), degree, api.ErrNone)
			refusedFit(t, numbers(n + 3)[:n], degree, api.ErrNone)
		}
		for _, n := range []int{degree + 1, degree + 2, api.MaxSize} {
			got, err := cast.Fit(numbers(n), degree)
			says(t, err, api.OK, n, degree)
			if len(got) != degree+1 {
				t.Errorf("Fit of %d numbers, %d: %d coefficients", n, degree, len(got))
			}
		}
	}
	refusedFit(t, nil, 0, api.ErrNone)
	refusedFit(t, nil, -1, api.ErrRange)
}
