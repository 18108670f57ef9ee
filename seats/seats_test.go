package seats_test

import (
	"math"
	"math/big"
	"math/rand"
	"slices"
	"testing"

	"foresight/api"
	"foresight/ratio"
	"foresight/seats"
)

// 17.2: Littlewood by hand: each n counts of which it is more likely, not as
// likely.
func TestLittlewood(t *testing.T) {
	dear := fares(t, example)[0]
	// 1, 2, 3 or more ask with 3/4, 1/2, 1/4.
	for cheap, want := range map[int]int{1: 3, 74: 3, 75: 2, 76: 2, 149: 2, 150: 1, 224: 1, 225: 0, 226: 0, 300: 0} {
		littlewood(t, dear, cheap, want)
	}
	for _, c := range []struct {
		dear        string
		cheap, want int
	}{
		{"1 1", 1, 0}, {"1 0 1", 1, 0}, {"2 0 1", 1, 1}, {"2 0 1", 2, 0}, {"2 1", 1, 0},
		{"2 1/2 1/2", 1, 0}, {"3 1/2 1/2", 1, 1}, {"3 1/2 1/2", 2, 0},
		{"2 0 0 0 1", 1, 3}, {"2 0 0 0 1 0 0", 1, 3}, {"2 0 0 0 1 0 0", 2, 0},
		// From 1 to 3 all are as likely: all of them count, or none.
		{"4 1/2 0 0 1/2", 1, 3}, {"4 1/2 0 0 1/2", 2, 0},
		{"100000 99999/100000 1/100000", 1, 0}, {"100000 49999/50000 1/50000", 1, 1},
		{"2 1/2 1/2", 2, 0},
	} {
		littlewood(t, fares(t, c.dear)[0], c.cheap, c.want)
	}
	// Just above and just below, of a fraction with many digits.
	half, least := part(1, 2), one(t, "~")
	littlewood(t, seats.Fare{Price: 2, Asks: []ratio.Ratio{half.Sub(least), half.Add(least)}}, 1, 1)
	littlewood(t, seats.Fare{Price: 2, Asks: []ratio.Ratio{half.Add(least), half.Sub(least)}}, 1, 0)
	littlewood(t, seats.Fare{Price: 2, Asks: sure(api.MaxSize)}, 1, api.MaxSize)
	littlewood(t, seats.Fare{Price: 101, Asks: even(101)}, 1, api.MaxSize-1)
	littlewood(t, seats.Fare{Price: 102, Asks: even(101)}, 1, api.MaxSize)
	littlewood(t, seats.Fare{Price: mostPrice, Asks: sure(2)}, mostPrice, 0)
	littlewood(t, seats.Fare{Price: mostPrice, Asks: sure(2)}, mostPrice-1, 2)
}

// 17.2: against the words, n by n, by the library.
func TestLittlewoodDrawn(t *testing.T) {
	die := rand.New(rand.NewSource(2))
	for range 400 {
		f := drawn(die, 1, 30)[0]
		for range 5 {
			cheap, want := 1+die.Intn(f.Price), 0
			for n := 1; n < len(f.Asks)+2; n++ {
				sum := new(big.Rat)
				for amount, share := range f.Asks {
					if amount >= n {
						sum.Add(sum, known(t, share))
					}
				}
				if sum.Cmp(big.NewRat(int64(cheap), int64(f.Price))) > 0 {
					want++
				}
			}
			littlewood(t, f, cheap, want)
		}
	}
}

// 17.3: the document's example, and others by hand.
func TestByHand(t *testing.T) {
	l := fares(t, example)
	kept(t, l, 5, []int{1, 3})
	sold(t, l, 5, []int{1, 3}, "1475/2")
	worth(t, l, 0, 5, "0 0 0 0 0 0")
	worth(t, l, 1, 5, "0 225 375 450 450 450")
	// Of 2 seats one is kept from the second class: 375 if none of it asks, 200 + 225 if 2 do.
	worth(t, l, 2, 5, "0 225 400 1075/2 1225/2 650")
	worth(t, l, 3, 5, "0 225 400 1075/2 1275/2 1475/2")
}

// 17.3: edges by hand.
func TestEdges(t *testing.T) {
	worth(t, fares(t, "7 1"), 0, 0, "0")
	worth(t, fares(t, "7 1"), 1, 0, "0")
	worth(t, fares(t, "7 1"), 1, 3, "0 0 0 0")
	worth(t, fares(t, "7 0 0 1"), 1, 4, "0 7 14 14 14")
	worth(t, fares(t, "7 1/2 0 1/2"), 1, 4, "0 7/2 7 7 7")
	// A class as dear as the one ahead of it is always sold to.
	worth(t, fares(t, "7 0 0 1; 7 0 1"), 2, 4, "0 7 14 21 21")
	kept(t, fares(t, "7 0 0 1; 7 0 1"), 4, []int{0})
	// All that are sure to be asked for later are kept.
	kept(t, fares(t, "8 0 0 1; 7 0 1"), 4, []int{2})
	kept(t, fares(t, "8 0 0 1; 7 0 1"), 1, []int{1})
	kept(t, fares(t, "8 0 0 1; 7 0 1"), 0, []int{0})
	// As likely as the cheap price is of the dear one: not kept.
	kept(t, fares(t, "8 1/2 1/2; 4 0 1"), 4, []int{0})
	kept(t, fares(t, "9 1/2 1/2; 4 0 1"), 4, []int{1})
	kept(t, fares(t, "7 1/2 1/2; 4 0 1"), 4, []int{0})
	kept(t, fares(t, "5 1"), 4, nil)
	kept(t, fares(t, "5 1"), 0, nil)
	kept(t, fares(t, "9 0 1; 8 0 1; 7 0 1; 6 0 1"), mostSeats, []int{1, 2, 3})
	kept(t, fares(t, "9 0 1; 8 0 1; 7 0 1; 6 0 1"), 2, []int{1, 2, 2})
	sold(t, fares(t, "5 1/2 1/2"), 0, nil, "0")
	sold(t, fares(t, "5 1/2 1/2"), 3, nil, "5/2")
	sold(t, fares(t, "5 1/2 1/2"), 3, []int{}, "5/2")
	// The cheap class comes first, and has what isn't kept.
	two := fares(t, "8 0 0 1; 5 0 0 0 1")
	for keep, want := range []string{"15", "18", "21", "16", "16"} {
		sold(t, two, 3, []int{keep}, want)
	}
	sold(t, two, 3, []int{math.MaxInt}, "16")
	sold(t, two, 0, []int{0}, "0")
	sold(t, two, mostSeats, []int{0}, "31")
	sold(t, two, mostSeats, []int{mostSeats - 2}, "26")
	sold(t, two, mostSeats, []int{mostSeats}, "16")
	// Limits that aren't nested: of each class its own counts.
	sold(t, fares(t, "9 0 1; 8 0 0 1; 7 0 0 1"), 3, []int{2, 0}, "23")
	sold(t, fares(t, "9 0 1; 8 0 0 1; 7 0 0 1"), 3, []int{2, 1}, "23")
	sold(t, fares(t, "9 0 1; 8 0 0 1; 7 0 0 1"), 3, []int{0, 2}, "23")
	sold(t, fares(t, "9 0 1; 8 0 0 1; 7 0 0 1"), 3, []int{1, 3}, "25")
}

// asked is, of a class as the library has it, how likely each number asks.
func asked(t *testing.T, f seats.Fare) []*big.Rat {
	t.Helper()
	var out []*big.Rat
	for _, share := range f.Asks {
		out = append(out, known(t, share))
	}
	return out
}

// best is Worth by the words, of the first 0, 1, .. classes, by the library: of
// those that ask, so many are sold to as brings the most, whatever number that
// is.
func best(t *testing.T, l []seats.Fare, n int) [][]*big.Rat {
	t.Helper()
	v := make([]*big.Rat, n+1)
	for m := range v {
		v[m] = new(big.Rat)
	}
	out := [][]*big.Rat{v}
	for _, f := range l {
		shares, next := asked(t, f), make([]*big.Rat, n+1)
		for m := range next {
			next[m] = new(big.Rat)
			for ask, share := range shares {
				most := v[m]
				for s := range min(ask, m) {
					brings := new(big.Rat).Add(whole(f.Price*(s+1)), v[m-s-1])
					if brings.Cmp(most) > 0 {
						most = brings
					}
				}
				next[m].Add(next[m], new(big.Rat).Mul(share, most))
			}
		}
		v = next
		out = append(out, v)
	}
	return out
}

// limits is Keep by the words, from the Worths of the library.
func limits(l []seats.Fare, worths [][]*big.Rat) []int {
	var out []int
	for class := 1; class < len(l); class++ {
		v, greatest := worths[class], 0
		for k := range v {
			all := true
			for m := 1; m <= k; m++ {
				all = all && new(big.Rat).Sub(v[m], v[m-1]).Cmp(whole(l[class].Price)) > 0
			}
			if all {
				greatest = k
			}
		}
		out = append(out, greatest)
	}
	return out
}

// takings is Sell by the words: every row of numbers that ask, gone through one
// by one, the last class first.
func takings(t *testing.T, l []seats.Fare, n int, keep []int) *big.Rat {
	t.Helper()
	if len(l) == 0 {
		return new(big.Rat)
	}
	last, limit := l[len(l)-1], 0
	if len(l) > 1 {
		limit = keep[len(l)-2]
	}
	sum := new(big.Rat)
	for ask, share := range asked(t, last) {
		left := n
		for range ask {
			if left > limit {
				left--
			}
		}
		all := takings(t, l[:len(l)-1], left, keep)
		sum.Add(sum, share.Mul(share, all.Add(all, whole(last.Price*(n-left)))))
	}
	return sum
}

// 17.3: Worth and Keep of what looks drawn, by the library; limits are nested
// (Littlewood), and by them as much comes in as can.
func TestDrawn(t *testing.T) {
	die := rand.New(rand.NewSource(3))
	some := 0
	for i := range 160 {
		l, n := drawn(die, 1+i%api.MaxStates, 5), die.Intn(14)
		if i%16 == 15 {
			n = mostSeats
		}
		worths := best(t, l, n)
		for classes, v := range worths {
			worth(t, l, classes, n, words(v))
		}
		keep := limits(l, worths)
		kept(t, l, n, keep)
		if !slices.IsSorted(keep) {
			t.Errorf("%s, %d: limits %v", written(l), n, keep)
		}
		if len(keep) > 0 && keep[len(keep)-1] > 0 && keep[len(keep)-1] < n {
			some++
		}
		sold(t, l, n, keep, worths[len(l)][n].RatString())
	}
	if some < 40 {
		t.Errorf("of the drawn ones %d keep some and not all: too few", some)
	}
}

// 17.3: Sell by whatever limits, each row of numbers that ask gone through.
func TestSellDrawn(t *testing.T) {
	die := rand.New(rand.NewSource(4))
	for i := range 200 {
		l, n := drawn(die, 1+i%4, 4), die.Intn(12)
		keep := make([]int, len(l)-1)
		for k := range keep {
			keep[k] = die.Intn(n + 3)
		}
		sold(t, l, n, keep, takings(t, l, n, keep).RatString())
	}
}

// 17.3: no limits bring more than those of Keep, of all that there are.
func TestNoLimitsBringMore(t *testing.T) {
	die := rand.New(rand.NewSource(5))
	for range 20 {
		l, n := drawn(die, 3, 3), 1+die.Intn(5)
		v, err := seats.Worth(l, 3, n)
		says(t, err, api.OK, written(l))
		reached := false
		for a := range n + 2 {
			for b := range n + 2 {
				got, err := seats.Sell(l, n, []int{a, b})
				says(t, err, api.OK, written(l), a, b)
				if got.Cmp(v[n]) > 0 {
					t.Errorf("%s, %d: by %d and %d %s, Worth %s", written(l), n, a, b, got.Text(), v[n].Text())
				}
				reached = reached || got.Cmp(v[n]) == 0
			}
		}
		if !reached {
			t.Errorf("%s, %d: no limits bring %s", written(l), n, v[n].Text())
		}
	}
}

// 17.2, 17.3: of two classes Keep is Littlewood's, up to the seats that there
// are.
func TestKeepIsLittlewood(t *testing.T) {
	die := rand.New(rand.NewSource(6))
	for range 200 {
		l := drawn(die, 2, 20)
		want, err := seats.Littlewood(l[0], l[1].Price)
		says(t, err, api.OK, written(l))
		for _, n := range []int{0, 1, 5, mostSeats} {
			kept(t, l, n, []int{min(want, n)})
		}
	}
}

// 17.3: as many classes, seats and numbers that ask as there may be, and laws
// of many digits.
func TestOfMany(t *testing.T) {
	die := rand.New(rand.NewSource(7))
	var l []seats.Fare
	for range api.MaxStates {
		l = append(l, seats.Fare{Price: mostPrice - 1000*len(l), Asks: even(api.MaxSize + 1)})
	}
	for _, l := range [][]seats.Fare{l, long(t, drawn(die, 4, 6)), long(t, drawn(die, 4, 6))} {
		worths := best(t, l, mostSeats)
		v := worths[len(l)]
		worth(t, l, len(l), mostSeats, words(v))
		keep := limits(l, worths)
		kept(t, l, mostSeats, keep)
		sold(t, l, mostSeats, keep, v[mostSeats].RatString())
	}
}

// spoil writes into a list, up to the end of its memory.
func spoil[T any](l []T, a T) {
	for i := range l[:cap(l)] {
		l[:cap(l)][i] = a
	}
}

// P4: what is handed in stays as it is, also behind a list's length; and what
// came out is the caller's.
func TestArgumentsStay(t *testing.T) {
	more := ratio.Whole(77)
	l := append(fares(t, example), seats.Fare{Price: 77})[:3]
	for class := range l {
		asks := l[class].Asks
		l[class].Asks = append(slices.Clone(asks), more)[:len(asks)]
	}
	keep := []int{1, 3, 77}[:2]
	for range 2 {
		v, err := seats.Worth(l, 3, 5)
		says(t, err, api.OK)
		if ratio.Words(v) != "0 225 400 1075/2 1275/2 1475/2" {
			t.Errorf("Worth: %s", ratio.Words(v))
		}
		spoil(v, more)
		v, err = seats.Worth(l, 0, 1)
		says(t, err, api.OK)
		spoil(v, more)
		n, err := seats.Keep(l, 5)
		says(t, err, api.OK)
		if !slices.Equal(n, []int{1, 3}) {
			t.Errorf("Keep: %v", n)
		}
		spoil(n, 77)
		sold(t, l, 5, keep, "1475/2")
		littlewood(t, l[0], 100, 2)
		says(t, seats.Check(l), api.OK)
		if written(l) != example || !slices.Equal(keep[:3], []int{1, 3, 77}) || l[:4][3].Price != 77 {
			t.Errorf("%s, %v, %d", written(l), keep[:3], l[:4][3].Price)
		}
		for class, f := range l {
			if n := len(f.Asks); f.Asks[:n+1][n].Text() != "77" {
				t.Errorf("behind the law of %d: %s", class, f.Asks[:n+1][n].Text())
			}
		}
	}
}
