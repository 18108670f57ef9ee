package stop_test

import (
	"math"
	"math/big"
	"testing"

	"foresight/api"
	"foresight/stop"
)

// orders calls of each order of so many.
func orders(n int, each func(order []int)) {
	order, there := make([]int, 0, n), make([]bool, n)
	var next func()
	next = func() {
		if len(order) == n {
			each(order)
			return
		}
		for who := range n {
			if !there[who] {
				there[who], order = true, append(order, who)
				next()
				there[who], order = false, order[:len(order)-1]
			}
		}
	}
	next()
}

// picks is whom one takes of an order, the greatest one being the best, if one
// lets so many go; -1: nobody.
func picks(order []int, let int) int {
	best := -1
	for place, who := range order {
		if who > best {
			if place >= let {
				return who
			}
			best = who
		}
	}
	return -1
}

// 14.2: Chosen, by all orders of up to 7; and Secretary by it.
func TestChosenByAllOrders(t *testing.T) {
	for n := 1; n <= 7; n++ {
		hits, all := make([]int64, n), int64(0)
		orders(n, func(order []int) {
			all++
			for let := range n {
				if picks(order, let) == n-1 {
					hits[let]++
				}
			}
		})
		best := 0
		for let := range n {
			got, err := stop.Chosen(n, let)
			is(t, got, err, big.NewRat(hits[let], all).RatString(), "Chosen", n, let)
			if hits[let] > hits[best] {
				best = let
			}
		}
		let, likely, err := stop.Secretary(n)
		is(t, likely, err, big.NewRat(hits[best], all).RatString(), "Secretary", n)
		if let != best {
			t.Errorf("Secretary of %d: let %d, want %d", n, let, best)
		}
	}
}

// chosen is Chosen by the library, one by one: somebody is the best of those
// up to there with one chance in so many, whoever was the best ahead. It is told
// by how likely nobody has been taken up to a place.
func chosen(n, let int) *big.Rat {
	none, out := big.NewRat(1, 1), new(big.Rat)
	for place := let + 1; place <= n; place++ {
		record := big.NewRat(1, int64(place))
		// Who is taken there is the best of all, if no later one is better: place / n.
		taken := new(big.Rat).Mul(none, record)
		out.Add(out, taken.Mul(taken, big.NewRat(int64(place), int64(n))))
		none.Mul(none, new(big.Rat).Sub(big.NewRat(1, 1), record))
	}
	return out
}

// 14.2: all numbers that may come, and all that one may let go; Secretary is
// the least with the greatest.
func TestChosenAll(t *testing.T) {
	for n := 1; n <= api.MaxSize; n++ {
		best, likely := 0, chosen(n, 0)
		for let := range n {
			want := chosen(n, let)
			got, err := stop.Chosen(n, let)
			is(t, got, err, want.RatString(), "Chosen", n, let)
			if want.Cmp(likely) > 0 {
				best, likely = let, want
			}
		}
		let, got, err := stop.Secretary(n)
		is(t, got, err, likely.RatString(), "Secretary", n)
		if let != best {
			t.Errorf("Secretary of %d: let %d, want %d", n, let, best)
		}
	}
}

// 14.2: what is known; of 2 to let none go and to let one go are alike.
func TestSecretaryKnown(t *testing.T) {
	for _, c := range []struct {
		n, let int
		want   string
	}{
		{1, 0, "1"}, {2, 0, "1/2"}, {3, 1, "1/2"}, {4, 1, "11/24"}, {5, 2, "13/30"}, {6, 2, "77/180"}, {7, 2, "29/70"}, {10, 3, "3349/8400"},
	} {
		let, likely, err := stop.Secretary(c.n)
		is(t, likely, err, c.want, "Secretary", c.n)
		if let != c.let {
			t.Errorf("Secretary of %d: let %d, want %d", c.n, let, c.let)
		}
		likely, err = stop.Chosen(c.n, c.let)
		is(t, likely, err, c.want, "Chosen", c.n, c.let)
	}
	let, _, err := stop.Secretary(api.MaxSize)
	says(t, err, api.OK, "Secretary of the most")
	if let != 37 {
		t.Errorf("Secretary of %d: let %d", api.MaxSize, let)
	}
	for n := 1; n <= api.MaxSize; n++ {
		likely, err := stop.Chosen(n, 0)
		is(t, likely, err, big.NewRat(1, int64(n)).RatString(), "the first of", n)
		likely, err = stop.Chosen(n, n-1)
		is(t, likely, err, big.NewRat(1, int64(n)).RatString(), "the last of", n)
	}
}

// 14.2: numbers that can't be.
func TestChosenWrong(t *testing.T) {
	refused := func(n, let int) {
		t.Helper()
		got, err := stop.Chosen(n, let)
		says(t, err, api.ErrRange, "Chosen", n, let)
		if got.Sign() != 0 {
			t.Errorf("Chosen of %d, %d: %s beside an error", n, let, got.Text())
		}
	}
	for _, n := range []int{0, -1, api.MaxSize + 1, -api.MaxSize, math.MinInt, math.MaxInt} {
		for _, let := range []int{0, -1, 1, n - 1, n, api.MaxSize, math.MinInt, math.MaxInt} {
			refused(n, let)
		}
		let, likely, err := stop.Secretary(n)
		says(t, err, api.ErrRange, "Secretary", n)
		if let != 0 || likely.Sign() != 0 {
			t.Errorf("Secretary of %d: %d, %s beside an error", n, let, likely.Text())
		}
	}
	for n := 1; n <= api.MaxSize; n++ {
		for _, let := range []int{-1, n, n + 1, -n, math.MinInt, math.MaxInt} {
			refused(n, let)
		}
	}
}
