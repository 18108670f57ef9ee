package store_test

import (
	"math"
	"math/big"
	"math/rand"
	"testing"

	"foresight/api"
	"foresight/chance"
	"foresight/ratio"
	"foresight/store"
)

// best fails unless News is as wanted, with no error.
func best(t *testing.T, l chance.Law, less, left ratio.Ratio, n int, loss string) {
	t.Helper()
	got, sum, err := store.News(l, less, left)
	is(t, sum, err, loss, "News", ratio.Words(l), less.Text(), left.Text())
	if got != n {
		t.Errorf("News of %s, %s, %s: %d, want %d", ratio.Words(l), less.Text(), left.Text(), got, n)
	}
}

// refusedNews fails unless News answers an error, and beside it noughts.
func refusedNews(t *testing.T, l chance.Law, less, left ratio.Ratio, want api.Errno, what ...any) {
	t.Helper()
	n, loss, err := store.News(l, less, left)
	says(t, err, want, "News", what)
	if n != 0 || loss.Sign() != 0 {
		t.Errorf("News %v: %d and %s beside an error", what, n, loss.Text())
	}
}

// refusedLoss fails unless Loss answers an error, and beside it 0.
func refusedLoss(t *testing.T, l chance.Law, n int, want api.Errno, what ...any) {
	t.Helper()
	for _, cost := range []int{-1, 0, 3} {
		loss, err := store.Loss(l, ratio.Whole(cost), ratio.Whole(cost), n)
		says(t, err, want, "Loss", what, n)
		if loss.Sign() != 0 {
			t.Errorf("Loss %v: %s beside an error", what, loss.Text())
		}
	}
}

// TestLoss: 12.1 by hand.
func TestLoss(t *testing.T) {
	l := law(t, "1/4 1/4 0 1/2")
	// 0, 1 or 3 are wanted: 5 for each that is missing, 5 for each that is left.
	for n, want := range []string{"35/4", "25/4", "25/4", "25/4", "45/4"} {
		got, err := store.Loss(l, ratio.Whole(5), ratio.Whole(5), n)
		is(t, got, err, want, "alike", n)
	}
	for _, c := range []struct {
		less, left string
		n          int
		want       string
	}{
		{"1", "0", 0, "7/4"}, {"1", "0", 1, "1"}, {"1", "0", 2, "1/2"}, {"1", "0", 3, "0"}, {"1", "0", 100, "0"},
		{"0", "1", 0, "0"}, {"0", "1", 1, "1/4"}, {"0", "1", 2, "3/4"}, {"0", "1", 3, "5/4"}, {"0", "1", 100, "393/4"},
		{"2/3", "3/2", 2, "35/24"}, {"0", "0", 2, "0"},
		// Loss says nothing of costs below 0.
		{"-1", "2", 2, "1"}, {"1", "-2", 2, "-1"}, {"-1", "-1", 1, "-5/4"},
	} {
		got, err := store.Loss(l, one(t, c.less), one(t, c.left), c.n)
		is(t, got, err, c.want, c)
	}
}

// TestLossWrong: 12.1: what Over says: of the law first, then of the amount.
func TestLossWrong(t *testing.T) {
	amounts := []int{math.MinInt, -1, 0, 1, api.MaxSize, api.MaxSize + 1, math.MaxInt}
	for _, c := range wrong(t) {
		for _, n := range amounts {
			refusedLoss(t, c.l, n, c.want, c.name)
		}
	}
	for _, l := range []chance.Law{law(t, "1"), law(t, "1/2 1/2"), even(api.MaxSize + 1)} {
		for _, n := range amounts {
			if n < 0 || n > api.MaxSize {
				refusedLoss(t, l, n, api.ErrRange, ratio.Words(l))
			}
		}
	}
}

// TestLossMany: as many amounts as a law may have, and each number of papers.
func TestLossMany(t *testing.T) {
	l := even(api.MaxSize + 1)
	for n := range api.MaxSize + 1 {
		above, below := (api.MaxSize-n)*(api.MaxSize-n+1)/2, n*(n+1)/2
		got, err := store.Loss(l, ratio.Whole(3), ratio.Whole(7), n)
		is(t, got, err, part(3*above+7*below, api.MaxSize+1).Text(), n)
	}
}

// TestNews: 12.1 by hand.
func TestNews(t *testing.T) {
	l := law(t, "1/4 1/4 0 1/2")
	none, whole := ratio.Whole(0), ratio.Whole(1)
	best(t, l, whole, whole, 1, "5/4")
	best(t, l, ratio.Whole(5), ratio.Whole(5), 1, "25/4")
	// A quarter, and a half, just are enough; a little more asks for more.
	best(t, l, whole, ratio.Whole(3), 0, "7/4")
	best(t, l, part(1001, 1000), ratio.Whole(3), 1, one(t, "1001/1000").Add(one(t, "3/4")).Text())
	best(t, l, part(1001, 1000), whole, 3, "5/4")
	best(t, l, part(999, 1000), whole, 1, one(t, "999/1000").Add(one(t, "1/4")).Text())
	// Nothing is lost by what is missing: none; nothing by what is left: all that may be wanted.
	best(t, l, none, whole, 0, "0")
	best(t, l, none, none, 0, "0")
	best(t, l, whole, none, 3, "0")
	best(t, law(t, "1/4 3/4 0 0"), whole, none, 1, "0")
	best(t, law(t, "0 0 1"), none, whole, 0, "0")
	best(t, law(t, "0 0 1"), part(1, 1000), whole, 2, "0")
	best(t, law(t, "0 0 1 0"), whole, none, 2, "0")
	best(t, law(t, "1"), whole, whole, 0, "0")
	best(t, law(t, "1"), whole, none, 0, "0")
	best(t, sure(api.MaxSize), whole, whole, api.MaxSize, "0")
	best(t, append(sure(0), noughts(api.MaxSize)...), whole, none, 0, "0")
	best(t, even(api.MaxSize+1), whole, none, api.MaxSize, "0")
	best(t, even(api.MaxSize+1), whole, part(1, 100), api.MaxSize-1, "1/2")
}

// TestNewsWrong: 12.1: what Check says of the law, then ErrArg.
func TestNewsWrong(t *testing.T) {
	numbers := []ratio.Ratio{part(-1, 1_000_000), ratio.Whole(-1), ratio.Whole(0), ratio.Whole(1)}
	for _, less := range numbers {
		for _, left := range numbers {
			for _, c := range wrong(t) {
				refusedNews(t, c.l, less, left, c.want, c.name, less.Text(), left.Text())
			}
			if less.Sign() < 0 || left.Sign() < 0 {
				for _, l := range []chance.Law{law(t, "1"), law(t, "1/2 1/2"), even(api.MaxSize + 1)} {
					refusedNews(t, l, less, left, api.ErrArg, ratio.Words(l), less.Text(), left.Text())
				}
			}
		}
	}
}

// loss is Loss by the words of 12.1, by the library.
func loss(l []*big.Rat, less, left *big.Rat, n int) *big.Rat {
	sum := new(big.Rat)
	for wanted, share := range l {
		each, many := less, wanted-n
		if wanted < n {
			each, many = left, n-wanted
		}
		sum.Add(sum, new(big.Rat).Mul(share, new(big.Rat).Mul(each, whole(many))))
	}
	return sum
}

// news is how many by the words of 12.1, by the library.
func news(l []*big.Rat, less, left *big.Rat) int {
	if less.Sign() == 0 {
		return 0
	}
	asked := new(big.Rat).Quo(less, new(big.Rat).Add(less, left))
	sum := new(big.Rat)
	for n, share := range l {
		if sum.Add(sum, share).Cmp(asked) >= 0 {
			return n
		}
	}
	return len(l)
}

// TestNewsDrawn: against the words; and with no number of papers is less lost,
// with a lesser one more (if what is missing costs anything).
func TestNewsDrawn(t *testing.T) {
	die := rand.New(rand.NewSource(1))
	for range 1500 {
		l, _ := shared(weights(die, 1+die.Intn(30)))
		less, left := part(die.Intn(12), 1+die.Intn(4)), part(die.Intn(12), 1+die.Intn(4))
		rats, costs := known(t, l...), known(t, less, left)
		n := news(rats, costs[0], costs[1])
		least := loss(rats, costs[0], costs[1], n)
		best(t, l, less, left, n, least.RatString())
		for other := range len(l) + 3 {
			want := loss(rats, costs[0], costs[1], other)
			got, err := store.Loss(l, less, left, other)
			is(t, got, err, want.RatString(), ratio.Words(l), less.Text(), left.Text(), other)
			if c := want.Cmp(least); c < 0 || c == 0 && other < n {
				t.Errorf("%s, %s, %s: %d are as good as %d", ratio.Words(l), less.Text(), left.Text(), other, n)
			}
		}
	}
}

// TestNewsOdd: numbers of many digits, and as many as a law may have.
func TestNewsOdd(t *testing.T) {
	l := odd(t, 30)
	says(t, chance.Check(l), api.OK, "odd")
	less, left := one(t, "7777777777777777777777777777777777777777/3"), one(t, "1/9999999999999999999999999999999999999998")
	for _, c := range [][2]ratio.Ratio{{less, left}, {left, less}, {less, less}, {less.Mul(less), less.Mul(less)}} {
		rats, costs := known(t, l...), known(t, c[0], c[1])
		n := news(rats, costs[0], costs[1])
		best(t, l, c[0], c[1], n, loss(rats, costs[0], costs[1], n).RatString())
	}
}
