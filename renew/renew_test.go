package renew_test

import (
	"math/big"
	"math/rand"
	"testing"

	"foresight/api"
	"foresight/chance"
	"foresight/ratio"
	"foresight/renew"
)

// 22.1, 22.2: the document's example, and what else is asked of it.
func TestExample(t *testing.T) {
	l, failed, planned := law(t, example), ratio.Whole(10), ratio.Whole(2)
	comes(t, l, 4, "1 1/4 5/16 41/64 93/256", "0 1/4 9/16 77/64 401/256")
	left(t, l, "4/9 1/3 2/9")
	// At 1 one in four has failed; at 2 half; up to 3 all.
	cost(t, l, failed, planned, 1, "4")
	cost(t, l, failed, planned, 2, "24/7")
	cost(t, l, failed, planned, 3, "40/9")
	cost(t, l, failed, planned, api.MaxSize, "40/9")
	age(t, l, failed, planned, 2, "24/7")
}

// 22.1: edges by hand.
func TestComesByHand(t *testing.T) {
	comes(t, law(t, example), 0, "1", "0")
	comes(t, law(t, example), 1, "1 1/4", "0 1/4")
	comes(t, sure(1), 0, "1", "0")
	comes(t, sure(1), 3, "1 1 1 1", "0 1 2 3")
	comes(t, sure(2), 5, "1 0 1 0 1 0", "0 0 1 1 2 2")
	comes(t, sure(4), 3, "1 0 0 0", "0 0 0 0")
	comes(t, law(t, "0 1/2 1/2 0 0"), 4, "1 1/2 3/4 5/8 11/16", "0 1/2 5/4 15/8 41/16")
	comes(t, law(t, "0 0 1/2 1/2"), 5, "1 0 1/2 1/2 1/4 1/2", "0 0 1/2 1 5/4 7/4")
	left(t, sure(1), "1")
	left(t, sure(3), "1/3 1/3 1/3")
	// What lasts no longer isn't told of: up to the greatest age at which it may fail.
	left(t, law(t, "0 1/2 1/2 0 0"), "2/3 1/3")
	left(t, law(t, "0 1 0 0"), "1")
	left(t, law(t, "0 0 1 0"), "1/2 1/2")
	left(t, law(t, "0 0 1/2 0 1/2 0"), "1/3 1/3 1/6 1/6")
}

// 22.2: edges by hand.
func TestCostByHand(t *testing.T) {
	ten, two, nought := ratio.Whole(10), ratio.Whole(2), ratio.Ratio{}
	// What fails at 2 for sure: at 2 it has failed, so it costs failed.
	cost(t, sure(2), ten, two, 1, "2")
	cost(t, sure(2), ten, two, 2, "5")
	cost(t, sure(2), ten, two, 3, "5")
	age(t, sure(2), ten, two, 1, "2")
	age(t, sure(2), ten, ratio.Whole(6), 2, "5")
	// Of like ones the first.
	age(t, sure(2), ten, ratio.Whole(5), 1, "5")
	age(t, law(t, "0 0 0 1/2 1/2"), nought, nought, 1, "0")
	age(t, law(t, "0 1/2 1/2"), ratio.Whole(3), ratio.Whole(1), 1, "2")
	age(t, law(t, "0 1/2 1/2"), ratio.Whole(2), ratio.Whole(0), 1, "1")
	age(t, law(t, "0 1/2 1/2"), ratio.Whole(3), ratio.Whole(2), 2, "2")
	// Nothing to pay for what failed: one waits for that.
	age(t, law(t, "0 1/2 1/4 1/4"), nought, two, 3, "0")
	age(t, law(t, "0 0 0 1/2 1/2"), ten, nought, 1, "0")
	// Only up to the greatest age at which it may fail.
	age(t, sure(1), ten, nought, 1, "10")
	age(t, law(t, "0 1 0 0"), ten, nought, 1, "10")
	age(t, law(t, "0 0 1 0 0"), ten, ratio.Whole(7), 2, "5")
	age(t, sure(api.MaxSize), ten, two, api.MaxSize-1, "2/99")
	age(t, sure(api.MaxSize), ten, ten, api.MaxSize, "1/10")
	cost(t, sure(api.MaxSize), ten, two, 50, "1/25")
	cost(t, sure(api.MaxSize), part(1, 3), two, api.MaxSize, "1/300")
	cost(t, law(t, "0 1/2 1/2"), part(7, 3), part(1, 5), 1, "19/15")
}

// failing is, by the words, how likely one fails at a time: the sum over all
// rows of ages that end there.
func failing(l []*big.Rat, at int) *big.Rat {
	if at == 0 {
		return whole(1)
	}
	sum := new(big.Rat)
	for age := 1; age < len(l) && age <= at; age++ {
		rest := failing(l, at-age)
		sum.Add(sum, rest.Mul(rest, l[age]))
	}
	return sum
}

// 22.1: short times, every row of ages gone through.
func TestComesDrawn(t *testing.T) {
	die := rand.New(rand.NewSource(1))
	for i := range 150 {
		l := drawn(die, 6)
		if i%5 == 4 {
			l = long(t, l)
		}
		upTo := die.Intn(10)
		var want, many []*big.Rat
		sum := new(big.Rat)
		for n := range upTo + 1 {
			want = append(want, failing(shares(t, l), n))
			if n > 0 {
				sum.Add(sum, want[n])
			}
			many = append(many, new(big.Rat).Set(sum))
		}
		comes(t, l, upTo, words(want), words(many))
	}
}

// mean is the mean of an age's worth.
func mean(l []*big.Rat, worth func(age int) *big.Rat) *big.Rat {
	sum := new(big.Rat)
	for age, share := range l {
		sum.Add(sum, new(big.Rat).Mul(share, worth(age)))
	}
	return sum
}

// The renewal equation: as many fail up to a time, as the first one, and as
// fail from then on; for as long as may be asked.
func TestRenewalEquation(t *testing.T) {
	die := rand.New(rand.NewSource(2))
	laws := []chance.Law{even(api.MaxSize), sure(7), law(t, example)}
	for range 4 {
		laws = append(laws, drawn(die, 30))
	}
	for _, l := range laws {
		got, err := renew.Many(l, api.MaxSize)
		says(t, err, api.OK, ratio.Words(l))
		put, err := renew.Comes(l, api.MaxSize)
		says(t, err, api.OK, ratio.Words(l))
		var many []*big.Rat
		for _, a := range got {
			many = append(many, known(t, a))
		}
		for n := range many {
			want := mean(shares(t, l), func(age int) *big.Rat {
				if age > n {
					return new(big.Rat)
				}
				return new(big.Rat).Add(whole(1), many[n-age])
			})
			if want.Cmp(many[n]) != 0 {
				t.Errorf("%.300s: up to %d %s fail, want %s", ratio.Words(l), n, many[n].RatString(), want.RatString())
			}
			if n > 0 && got[n].Sub(got[n-1]).Cmp(put[n]) != 0 {
				t.Errorf("%.300s: at %d one is put in with %s", ratio.Words(l), n, put[n].Text())
			}
		}
	}
}

// lasts is how likely a thing lasts longer than so long.
func lasts(l []*big.Rat, n int) *big.Rat {
	return mean(l, func(age int) *big.Rat {
		if age > n {
			return whole(1)
		}
		return new(big.Rat)
	})
}

// 22.1: Left by the words.
func TestLeftDrawn(t *testing.T) {
	die := rand.New(rand.NewSource(3))
	for i := range 200 {
		l := drawn(die, 30)
		if i%5 == 4 {
			l = long(t, l)
		}
		ages := shares(t, l)
		mid := mean(ages, whole)
		var want []*big.Rat
		for n := 0; lasts(ages, n).Sign() > 0; n++ {
			want = append(want, new(big.Rat).Quo(lasts(ages, n), mid))
		}
		left(t, l, words(want))
		got, err := renew.Left(l)
		says(t, err, api.OK)
		says(t, chance.Check(got), api.OK, ratio.Words(l))
	}
	left(t, even(4), "2/5 3/10 1/5 1/10")
}

// Where so long is left to the first one as Left tells, one is put in as often
// at each time.
func TestLeftIsCalm(t *testing.T) {
	die := rand.New(rand.NewSource(4))
	for range 50 {
		l := drawn(die, 12)
		first, err := renew.Left(l)
		says(t, err, api.OK)
		put, err := renew.Comes(l, 40)
		says(t, err, api.OK)
		mid, err := chance.Moment(l, 1)
		says(t, err, api.OK)
		for at := range 40 {
			var often ratio.Ratio
			for n, share := range first {
				if n <= at {
					often = often.Add(share.Mul(put[at-n]))
				}
			}
			if often.Mul(mid).Cmp(ratio.Whole(1)) != 0 {
				t.Errorf("%s: at %d %s", ratio.Words(l), at, often.Text())
			}
		}
	}
}

// price is Cost by the words: of each age at which it would fail, what is paid
// then, and how long it is there.
func price(l []*big.Rat, failed, planned *big.Rat, at int) *big.Rat {
	pays := mean(l, func(age int) *big.Rat {
		if age <= at {
			return failed
		}
		return planned
	})
	there := mean(l, func(age int) *big.Rat { return whole(min(age, at)) })
	return pays.Quo(pays, there)
}

// 22.2: Cost and Age by the words.
func TestCostDrawn(t *testing.T) {
	die := rand.New(rand.NewSource(5))
	between := 0
	for i := range 200 {
		l := drawn(die, 12)
		if i%5 == 4 {
			l = long(t, l)
		}
		failed, planned := part(die.Intn(60), 1+die.Intn(4)), part(die.Intn(12), 1+die.Intn(4))
		ages := shares(t, l)
		var best *big.Rat
		first := 0
		for at := 1; at <= len(l)+3; at++ {
			want := price(ages, known(t, failed), known(t, planned), at)
			cost(t, l, failed, planned, at, want.RatString())
			if lasts(ages, at-1).Sign() > 0 && (best == nil || want.Cmp(best) < 0) {
				best, first = want, at
			}
		}
		cost(t, l, failed, planned, api.MaxSize, price(ages, known(t, failed), known(t, planned), api.MaxSize).RatString())
		age(t, l, failed, planned, first, best.RatString())
		if first > 1 && first < len(l)-2 {
			between++
		}
	}
	if between < 40 {
		t.Errorf("of %d the best age is between: too few", between)
	}
}

// 22.1, 22.2: laws as long as there may be, of many digits.
func TestOfMany(t *testing.T) {
	l := even(api.MaxSize)
	for n := range l {
		if n > 0 {
			l[n] = part(2*n, api.MaxSize*(api.MaxSize+1))
		}
	}
	for _, l := range []chance.Law{even(api.MaxSize), l, long(t, even(40))} {
		ages := shares(t, l)
		ten, two := ratio.Whole(10), ratio.Whole(2)
		var best *big.Rat
		first := 0
		for at := 1; at < len(l); at++ {
			want := price(ages, whole(10), whole(2), at)
			cost(t, l, ten, two, at, want.RatString())
			if best == nil || want.Cmp(best) < 0 {
				best, first = want, at
			}
		}
		age(t, l, ten, two, first, best.RatString())
		if first < 2 || first > len(l)-3 {
			t.Errorf("the best age is %d", first)
		}
		got, err := renew.Left(l)
		says(t, err, api.OK)
		if len(got) != len(l)-1 || ratio.Sum(got...).Cmp(ratio.Whole(1)) != 0 {
			t.Errorf("%d numbers of Left", len(got))
		}
	}
	short := long(t, even(12))
	put, err := renew.Comes(short, 40)
	says(t, err, api.OK)
	for n := 1; n < len(put); n++ {
		want := new(big.Rat)
		for at := 1; at < len(short) && at <= n; at++ {
			want.Add(want, new(big.Rat).Mul(known(t, short[at]), known(t, put[n-at])))
		}
		if known(t, put[n]).Cmp(want) != 0 {
			t.Errorf("at %d: %.300s", n, put[n].Text())
		}
	}
}

// spoil writes into a list, up to the end of its memory.
func spoil(l []ratio.Ratio) {
	for i := range l[:cap(l)] {
		l[:cap(l)][i] = ratio.Whole(77)
	}
}

// P4: what is handed in stays as it is, also behind a list's length; and what
// came out is the caller's.
func TestArgumentsStay(t *testing.T) {
	for _, text := range []string{example, "0 1/4 1/4 1/2 0 0", "0 1"} {
		l := append(law(t, text), ratio.Whole(77))
		l = l[:len(l)-1]
		for range 2 {
			put, err := renew.Comes(l, 7)
			says(t, err, api.OK)
			many, err := renew.Many(l, 7)
			says(t, err, api.OK)
			rest, err := renew.Left(l)
			says(t, err, api.OK)
			comes(t, l, 7, ratio.Words(put), ratio.Words(many))
			left(t, l, ratio.Words(rest))
			spoil(put)
			spoil(many)
			spoil(rest)
			_, err = renew.Cost(l, ratio.Whole(10), ratio.Whole(2), 2)
			says(t, err, api.OK)
			_, _, err = renew.Age(l, ratio.Whole(10), ratio.Whole(2))
			says(t, err, api.OK)
			if ratio.Words(l) != text || l[:len(l)+1][len(l)].Text() != "77" {
				t.Errorf("%s, then %s", ratio.Words(l), l[:len(l)+1][len(l)].Text())
			}
		}
	}
	l := law(t, example)
	first, err := renew.Comes(l, 4)
	says(t, err, api.OK)
	spoil(first)
	comes(t, l, 4, "1 1/4 5/16 41/64 93/256", "0 1/4 9/16 77/64 401/256")
}
