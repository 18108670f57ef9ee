package stop_test

import (
	"math"
	"math/big"
	"math/rand"
	"testing"

	"foresight/api"
	"foresight/chance"
	"foresight/ratio"
	"foresight/stop"
)

// 14.3: House by hand: what it costs may be more than one gets, or less than
// nothing.
func TestHouse(t *testing.T) {
	for _, c := range []struct {
		law, cost string
		offers    int
		want      string
	}{
		{"1", "0", 0, "0"}, {"1", "5", 0, "0"}, {"1", "-5", 0, "0"},
		{"1", "0", 2, "0 0 0"}, {"1", "1", 2, "0 0 0"}, {"1", "-1", 2, "0 1 2"},
		{"0 1", "0", 2, "0 1 1"}, {"0 1", "1/3", 2, "0 2/3 2/3"}, {"0 1", "1", 2, "0 0 0"}, {"0 1", "2", 2, "0 0 0"},
		{"0 1", "-1/2", 3, "0 3/2 2 5/2"},
		{"1/2 0 1/2", "0", 3, "0 1 3/2 7/4"},
		{"1/2 0 1/2", "1/2", 3, "0 1/2 3/4 7/8"},
		{"1/2 0 1/2", "1", 3, "0 0 0 0"},
		{"1/2 0 1/2", "~", 0, "0"},
		{"1/3 1/3 1/3", "0", 3, "0 1 4/3 14/9"},
		{"1/3 1/3 1/3", "1/3", 3, "0 2/3 8/9 26/27"},
		{"0 1/6 1/6 1/6 1/6 1/6 1/6", "0", 3, "0 7/2 17/4 14/3"},
		{"0 1/6 1/6 1/6 1/6 1/6 1/6 0 0", "1", 3, "0 5/2 17/6 53/18"},
		{"0 1/6 1/6 1/6 1/6 1/6 1/6", "7/2", 3, "0 0 0 0"},
		{"0 1/6 1/6 1/6 1/6 1/6 1/6", "4", 3, "0 0 0 0"},
		{"1/4 0 0 3/4", "-2", 4, "0 17/4 25/4 33/4 41/4"},
	} {
		got, err := stop.House(list(t, c.law), one(t, c.cost), c.offers)
		are(t, got, err, c.want, c.law, c.cost, c.offers)
	}
}

// houses is House by the library, by the words of 14.3.
func houses(t *testing.T, l chance.Law, cost ratio.Ratio, offers int) []*big.Rat {
	t.Helper()
	out := []*big.Rat{new(big.Rat)}
	for range offers {
		last, mean := out[len(out)-1], new(big.Rat)
		for amount, share := range l {
			offer := big.NewRat(int64(amount), 1)
			if offer.Cmp(last) < 0 {
				offer = last
			}
			mean.Add(mean, new(big.Rat).Mul(known(t, share), offer))
		}
		mean.Sub(mean, known(t, cost))
		if mean.Sign() < 0 {
			mean = new(big.Rat)
		}
		out = append(out, mean)
	}
	return out
}

// 14.3: House of what looks drawn, up to the longest laws and the most offers.
func TestHouseDrawn(t *testing.T) {
	die := rand.New(rand.NewSource(6))
	none := 0
	for i := range 300 {
		n := 1 + die.Intn(8)
		if i%10 == 0 {
			n = api.MaxSize + 1
		}
		l := chance.Law(shares(die, n))
		cost := part(die.Intn(13)-3, 1+die.Intn(6))
		offers := die.Intn(mostTimes + 1)
		if i%10 == 0 {
			offers = mostTimes
		}
		got, err := stop.House(l, cost, offers)
		want := houses(t, l, cost, offers)
		are(t, got, err, words(want), ratio.Words(l), cost.Text(), offers)
		if offers > 0 && want[offers].Sign() == 0 {
			none++
		}
	}
	if none < 20 || none > 250 {
		t.Errorf("of %d drawn ones it is worth nothing to wait", none)
	}
}

// 14.3: the most that any rule brings: with each number of offers to come one
// goes home with 0, or pays and takes from a price on, and else waits on.
func TestHouseIsTheBestOfAllRules(t *testing.T) {
	die := rand.New(rand.NewSource(7))
	const amounts, offers = 4, 3
	for range 30 {
		l := chance.Law(shares(die, amounts))
		cost := part(die.Intn(7)-1, 1+die.Intn(5))
		brings := []ratio.Ratio{{}}
		for range offers {
			var more []ratio.Ratio
			for _, later := range brings {
				more = append(more, ratio.Ratio{})
				for price := range amounts + 1 {
					mean := ratio.Ratio{}.Sub(cost)
					for amount, share := range l {
						if amount >= price {
							mean = mean.Add(share.Mul(ratio.Whole(amount)))
						} else {
							mean = mean.Add(share.Mul(later))
						}
					}
					more = append(more, mean)
				}
			}
			brings = more
		}
		var best ratio.Ratio
		for _, a := range brings {
			if a.Cmp(best) > 0 {
				best = a
			}
		}
		got, err := stop.House(l, cost, offers)
		says(t, err, api.OK, ratio.Words(l), cost.Text())
		if len(got) != offers+1 {
			t.Fatalf("%s, %s: %s", ratio.Words(l), cost.Text(), ratio.Words(got))
		}
		is(t, got[offers], nil, best.Text(), ratio.Words(l), cost.Text())
	}
}

// wrongLaws is lists that are no laws.
func wrongLaws(t *testing.T) []wrong {
	t.Helper()
	return []wrong{
		{"none", nil, api.ErrLimit},
		{"empty", []ratio.Ratio{}, api.ErrLimit},
		{"too long", sure(api.MaxSize+2, 0), api.ErrLimit},
		{"too long, below 0", like(api.MaxSize+2, ratio.Whole(-1)), api.ErrLimit},
		{"too long, all 0", make([]ratio.Ratio, 2*api.MaxSize), api.ErrLimit},
		{"below 0", list(t, "2 -1"), api.ErrArg},
		{"just below 0", list(t, "1 -~"), api.ErrArg},
		{"below 0, not 1 together", list(t, "-1 1"), api.ErrArg},
		{"0", list(t, "0"), api.ErrSum},
		{"less than 1", list(t, "1/2 1/3"), api.ErrSum},
		{"just above 1", list(t, "1/2 1/2 ~"), api.ErrSum},
	}
}

// 14.3: laws and numbers of offers that can't be; of both the law is told first.
func TestHouseWrong(t *testing.T) {
	refused := func(l chance.Law, offers int, want api.Errno, what string) {
		t.Helper()
		for _, cost := range []string{"0", "1", "-1"} {
			got, err := stop.House(l, one(t, cost), offers)
			says(t, err, want, "House", what, offers, cost)
			if len(got) != 0 {
				t.Errorf("House of %s, %d: %s beside an error", what, offers, ratio.Words(got))
			}
		}
	}
	bad := []int{-1, mostTimes + 1, -mostTimes, 100, math.MinInt, math.MaxInt}
	for _, w := range wrongLaws(t) {
		for _, offers := range append(bad, 0, 1, mostTimes) {
			refused(w.row, offers, w.want, w.name)
		}
	}
	for _, offers := range bad {
		refused(list(t, "1"), offers, api.ErrRange, "a law")
		refused(sure(api.MaxSize+1, 3), offers, api.ErrRange, "the longest law")
	}
	got, err := stop.House(sure(api.MaxSize+1, api.MaxSize), ratio.Ratio{}, mostTimes)
	says(t, err, api.OK, "the longest law, the most offers")
	if len(got) != mostTimes+1 || got[mostTimes].Text() != "100" {
		t.Errorf("the longest law: %s", ratio.Words(got))
	}
}

// 14.4: the bets are the chances, whatever is paid; it grows by what is bet on
// the winner times its pay.
func TestHorse(t *testing.T) {
	for _, c := range []struct {
		chances, pays string
		wins          int
		grows         string
	}{
		{"1", "1", 0, "1"}, {"1", "5/3", 0, "5/3"}, {"1", "~", 0, tiny},
		{"1/2 1/2", "2 2", 0, "1"}, {"1/2 1/2", "3 1/3", 0, "3/2"}, {"1/2 1/2", "3 1/3", 1, "1/6"},
		{"0 1", "9 1", 0, "0"}, {"0 1", "9 1", 1, "1"},
		{"1/2 1/3 1/6", "2 3 7", 0, "1"}, {"1/2 1/3 1/6", "2 4 7", 1, "4/3"}, {"1/2 1/3 1/6", "2 3 7", 2, "7/6"},
		{"1/6 0 5/6 0", "1 1 1 1", 2, "5/6"}, {"1/6 0 5/6 0", "1 1 1 1", 3, "0"},
	} {
		bets, grows, err := stop.Horse(list(t, c.chances), list(t, c.pays), c.wins)
		are(t, bets, err, c.chances, "bets", c.pays, c.wins)
		is(t, grows, err, c.grows, "grows", c.chances, c.pays, c.wins)
	}
}

// 14.4: what looks drawn, up to the most horses, whichever wins.
func TestHorseDrawn(t *testing.T) {
	die := rand.New(rand.NewSource(8))
	for i := range 60 {
		n := 1 + die.Intn(9)
		if i%10 == 0 {
			n = api.MaxSize + 1
		}
		chances := shares(die, n)
		var pays []ratio.Ratio
		for range n {
			pays = append(pays, part(1+die.Intn(30), 1+die.Intn(9)))
		}
		for wins := range n {
			bets, grows, err := stop.Horse(chances, pays, wins)
			are(t, bets, err, ratio.Words(chances), "bets", n, wins)
			want := new(big.Rat).Mul(known(t, chances[wins]), known(t, pays[wins]))
			is(t, grows, err, want.RatString(), "grows", n, wins)
		}
	}
}

// horseRefused fails unless Horse tells an error and nothing else.
func horseRefused(t *testing.T, chances, pays []ratio.Ratio, wins int, want api.Errno, what string) {
	t.Helper()
	bets, grows, err := stop.Horse(chances, pays, wins)
	says(t, err, want, "Horse", what, ratio.Words(pays), wins)
	if len(bets) != 0 || grows.Sign() != 0 {
		t.Errorf("Horse of %s, %d: %s, %s beside an error", what, wins, ratio.Words(bets), grows.Text())
	}
}

// 14.4: chances, then how many pays, then each of them, then the winner.
func TestHorseWrong(t *testing.T) {
	numbers := []int{0, 1, -1, 2, 100, math.MinInt, math.MaxInt}
	for _, w := range wrongLaws(t) {
		for _, wins := range numbers {
			for _, pays := range [][]ratio.Ratio{nil, like(len(w.row), ratio.Whole(1)), like(len(w.row), ratio.Whole(-1)), like(len(w.row)+1, ratio.Whole(1))} {
				horseRefused(t, w.row, pays, wins, w.want, w.name)
			}
		}
	}
	two := list(t, "1/3 2/3")
	for _, wins := range numbers {
		for _, pays := range []string{"", "1", "1 1 1", "0", "-1 -1 -1", "0 0 0"} {
			horseRefused(t, two, list(t, pays), wins, api.ErrForm, "two")
		}
		for _, pays := range []string{"0 1", "1 0", "-1 1", "1 -1", "-~ 1", "1 -~", "0 0"} {
			horseRefused(t, two, list(t, pays), wins, api.ErrArg, "two")
		}
		if wins != 0 && wins != 1 {
			horseRefused(t, two, list(t, "1 1"), wins, api.ErrRange, "two")
		}
	}
	// A pay that can't be is wrong also of a horse that never wins, or doesn't win now.
	horseRefused(t, list(t, "0 1"), list(t, "0 1"), 1, api.ErrArg, "one that never wins")
	n := api.MaxSize + 1
	horseRefused(t, sure(n, 0), like(n, ratio.Whole(1)), n, api.ErrRange, "the most")
}

// P4: what is handed in stays as it is, and the answers are the caller's.
func TestHouseAndHorseAreFresh(t *testing.T) {
	l, pays := list(t, "1/2 0 1/2 77"), list(t, "2 3 4 77")
	for range 2 {
		for offers, want := range []string{"0", "0 1", "0 1 3/2"} {
			got, err := stop.House(l[:3], ratio.Ratio{}, offers)
			are(t, got, err, want, "House", offers)
			spoil(got, ratio.Whole(-55))
		}
		bets, grows, err := stop.Horse(l[:3], pays[:3], 2)
		are(t, bets, err, "1/2 0 1/2", "bets")
		is(t, grows, err, "2", "grows")
		spoil(bets, ratio.Whole(-55))
		if ratio.Words(l) != "1/2 0 1/2 77" || ratio.Words(pays) != "2 3 4 77" {
			t.Errorf("%s and %s", ratio.Words(l), ratio.Words(pays))
		}
	}
}
