package renew_test

import (
	"math"
	"slices"
	"testing"

	"foresight/api"
	"foresight/chance"
	"foresight/ratio"
	"foresight/renew"
)

// bad is a law that may not be, and what all say of it.
type bad struct {
	name string
	l    chance.Law
	want api.Errno
}

// wrongLaws is lists that are no laws, and laws of what may fail at 0, those
// with several errors among them.
func wrongLaws(t *testing.T) []bad {
	t.Helper()
	tooLong := slices.Repeat(chance.Law{part(1, api.MaxSize+2)}, api.MaxSize+2)
	return []bad{
		{"nil", nil, api.ErrLimit},
		{"no numbers", chance.Law{}, api.ErrLimit},
		{"MaxSize + 2 numbers", tooLong, api.ErrLimit},
		{"MaxSize + 2 numbers, noughts at the end", append(law(t, "0 1"), make(chance.Law, api.MaxSize)...), api.ErrLimit},
		{"MaxSize + 2 numbers, one below 0", append(law(t, "-1/2 1 1/2"), make(chance.Law, api.MaxSize-1)...), api.ErrLimit},
		{"below 0 at 0", law(t, "-1/2 1 1/2"), api.ErrArg},
		{"the last just below 0", law(t, "0 1 -~"), api.ErrArg},
		{"below 0, and not 1 together", law(t, "1/2 -1/3 1/2"), api.ErrArg},
		{"a nought", law(t, "0"), api.ErrSum},
		{"just above 1 together", law(t, "0 1/2 1/2 ~"), api.ErrSum},
		{"below 1 together", law(t, "0 1/3 1/3 333333/1000000"), api.ErrSum},
		{"just above 1 together, at 0 too", law(t, "~ 1/2 1/2"), api.ErrSum},
		{"at 0 for sure", law(t, "1"), api.ErrZero},
		{"at 0 for sure, noughts behind", law(t, "1 0 0"), api.ErrZero},
		{"at 0 perhaps", law(t, "1/2 1/4 1/4"), api.ErrZero},
		{"at 0 hardly ever", append(law(t, "~ 1/2"), part(1, 2).Sub(one(t, "~"))), api.ErrZero},
	}
}

// 22.1, 22.2: what all say first, whatever else is wrong.
func TestWrongLaws(t *testing.T) {
	times := []int{math.MinInt, -1, 0, 1, 5, api.MaxSize, api.MaxSize + 1, math.MaxInt}
	for _, b := range wrongLaws(t) {
		got, err := renew.Left(b.l)
		says(t, err, b.want, "Left", b.name)
		if got != nil {
			t.Errorf("Left of %s: %s beside an error", b.name, ratio.Words(got))
		}
		for _, n := range times {
			refusedTime(t, b.l, n, b.want, b.name)
		}
		for _, failed := range law(t, "-1 -~ 0 10") {
			for _, planned := range law(t, "-1 -~ 0 2") {
				refusedAge(t, b.l, failed, planned, b.want, b.name)
				for _, n := range times {
					refusedCost(t, b.l, failed, planned, n, b.want, b.name)
				}
			}
		}
	}
}

// 22.1: up to which times one may ask.
func TestTimeWrong(t *testing.T) {
	for _, l := range []chance.Law{sure(1), law(t, example), even(api.MaxSize), sure(api.MaxSize)} {
		for _, upTo := range []int{math.MinInt, -api.MaxSize, -1, api.MaxSize + 1, 2 * api.MaxSize, math.MaxInt} {
			refusedTime(t, l, upTo, api.ErrRange)
		}
		for _, upTo := range []int{0, 1, api.MaxSize} {
			got, err := renew.Comes(l, upTo)
			many, also := renew.Many(l, upTo)
			if err != nil || also != nil || len(got) != upTo+1 || len(many) != upTo+1 {
				t.Errorf("%s, %d: %d and %d numbers, %v, %v", ratio.Words(l), upTo, len(got), len(many), err, also)
			}
		}
	}
}

// 22.2: what may be paid, then at which ages.
func TestCostWrong(t *testing.T) {
	ages := []int{math.MinInt, -1, 0, api.MaxSize + 1, 2 * api.MaxSize, math.MaxInt}
	for _, l := range []chance.Law{sure(1), law(t, example), even(api.MaxSize)} {
		for _, least := range law(t, "-1 -1/2 -~") {
			for _, other := range law(t, "0 ~ 1 10 -1") {
				refusedAge(t, l, least, other, api.ErrArg)
				refusedAge(t, l, other, least, api.ErrArg)
				for _, n := range append([]int{1, 2, api.MaxSize}, ages...) {
					refusedCost(t, l, least, other, n, api.ErrArg)
					refusedCost(t, l, other, least, n, api.ErrArg)
				}
			}
		}
		for _, n := range ages {
			refusedCost(t, l, ratio.Whole(10), ratio.Whole(2), n, api.ErrRange)
			refusedCost(t, l, ratio.Ratio{}, ratio.Ratio{}, n, api.ErrRange)
		}
		for _, n := range []int{1, 2, 3, 4, 50, api.MaxSize} {
			_, err := renew.Cost(l, ratio.Whole(10), ratio.Whole(2), n)
			says(t, err, api.OK, n)
		}
	}
}
