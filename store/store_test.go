package store_test

import (
	"math"
	"math/big"
	"math/rand"
	"slices"
	"testing"

	"foresight/api"
	"foresight/chance"
	"foresight/ratio"
	"foresight/store"
)

// The bounds that 12.2 names.
const (
	far         = 40
	mostCost    = 1000
	mostPeriods = 5
	mostAmounts = 9
)

// at is the place of an amount in a Cost.
func at(x int) int { return x + far }

// rules is those of a shop that may be.
func rules(t *testing.T, s store.Shop, periods int) []store.Rule {
	t.Helper()
	out, err := store.Rules(s, periods)
	if err != nil || len(out) != periods {
		t.Fatalf("Rules of %v, %d: %d of them, error %v", s, periods, len(out), err)
	}
	for _, r := range out {
		if len(r.Cost) != 2*far+1 {
			t.Fatalf("Rules of %v, %d: %d costs", s, periods, len(r.Cost))
		}
	}
	return out
}

// ruled fails unless a rule goes from below low up to high, and costs so much
// from some amounts on.
func ruled(t *testing.T, r store.Rule, low, high int, costs map[int]string) {
	t.Helper()
	if r.Low != low || r.High != high {
		t.Errorf("from %d up to %d, want from %d up to %d", r.Low, r.High, low, high)
	}
	for x, want := range costs {
		is(t, r.Cost[at(x)], nil, want, "from", x)
	}
}

// refusedRules fails unless Rules answers an error, and nothing beside it.
func refusedRules(t *testing.T, s store.Shop, periods int, want api.Errno, what ...any) {
	t.Helper()
	out, err := store.Rules(s, periods)
	says(t, err, want, "Rules", periods, what)
	if out != nil {
		t.Errorf("Rules %v: %d rules beside an error", what, len(out))
	}
}

// refused fails unless Check and Rules answer an error, also where more is wrong
// that is told later.
func refused(t *testing.T, s store.Shop, want api.Errno, what ...any) {
	t.Helper()
	says(t, store.Check(s), want, "Check", what)
	for _, periods := range []int{1, mostPeriods, 0, -1, mostPeriods + 1, math.MaxInt} {
		refusedRules(t, s, periods, want, what)
	}
}

// TestCheck: 12.2: what may be.
func TestCheck(t *testing.T) {
	for _, l := range []chance.Law{law(t, "1"), law(t, "0 1"), law(t, "1/2 1/2 0"), even(mostAmounts), sure(mostAmounts - 1), odd(t, mostAmounts)} {
		for _, cost := range []int{0, 1, mostCost - 1, mostCost} {
			says(t, store.Check(store.Shop{Law: l, Fixed: cost, Each: cost, Left: cost, Short: cost}), api.OK, ratio.Words(l), cost)
		}
	}
}

// TestCheckLaw: 12.2: what Check says of the law comes first, then how many
// numbers it has, noughts too; then the costs.
func TestCheckLaw(t *testing.T) {
	for _, cost := range []int{0, 5, -1, mostCost + 1} {
		for _, c := range wrong(t) {
			refused(t, store.Shop{Law: c.l, Fixed: cost, Each: cost, Left: cost, Short: cost}, c.want, c.name, cost)
		}
		for _, l := range []chance.Law{even(mostAmounts + 1), sure(mostAmounts), append(sure(0), noughts(mostAmounts)...), even(api.MaxSize + 1)} {
			refused(t, store.Shop{Law: l, Fixed: cost, Each: cost, Left: cost, Short: cost}, api.ErrLimit, len(l), cost)
		}
	}
}

// TestCheckCosts: 12.2: each of the four from 0 to 1000.
func TestCheckCosts(t *testing.T) {
	for _, cost := range []int{-1, mostCost + 1, math.MinInt, math.MaxInt} {
		for which := range 4 {
			s := store.Shop{Law: law(t, "1/2 1/2"), Fixed: 3, Each: 2, Left: 1, Short: 4}
			*[]*int{&s.Fixed, &s.Each, &s.Left, &s.Short}[which] = cost
			refused(t, s, api.ErrRange, which, cost)
		}
	}
}

// TestPeriods: 12.2: from 1 to 5 of them.
func TestPeriods(t *testing.T) {
	s := store.Shop{Law: law(t, "1/2 1/2"), Fixed: 3, Each: 2, Left: 1, Short: 4}
	for _, periods := range []int{0, -1, mostPeriods + 1, 100, math.MinInt, math.MaxInt} {
		refusedRules(t, s, periods, api.ErrRange)
	}
	for periods := 1; periods <= mostPeriods; periods++ {
		rules(t, s, periods)
	}
}

// TestRulesSure: 12.2 by hand, where it is sure what is wanted.
func TestRulesSure(t *testing.T) {
	// Nothing is wanted, and 2 a period for each that is owed: from -1 on to go up costs 1 and 1, no less than to stay.
	s := store.Shop{Law: law(t, "1"), Fixed: 1, Each: 1, Left: 1, Short: 2}
	two := rules(t, s, 2)
	ruled(t, two[0], -1, 0, map[int]string{-40: "41", -3: "4", -2: "3", -1: "2", 0: "0", 1: "1", 40: "40"})
	ruled(t, two[1], 0, 0, map[int]string{-40: "41", -2: "3", -1: "2", 0: "0", 1: "2", 40: "80"})
	// 3 are wanted in each period: to keep 3 costs less than to order once more. From 2 on to owe one first is no dearer.
	s = store.Shop{Law: sure(3), Fixed: 10, Each: 2, Left: 3, Short: 9}
	two = rules(t, s, 2)
	ruled(t, two[0], 2, 3, map[int]string{-40: "96", 0: "16", 1: "14", 2: "9", 3: "0", 4: "3", 40: "111"})
	ruled(t, two[1], 2, 6, map[int]string{0: "31", 1: "29", 2: "27", 3: "16", 4: "17", 5: "15", 6: "9", 7: "15"})
}

// TestRulesNever: 12.2: where nothing is to be had by it, nothing is ordered.
func TestRulesNever(t *testing.T) {
	for _, s := range []store.Shop{
		{Law: sure(2)},
		{Law: even(mostAmounts), Left: 5},
		{Law: even(mostAmounts), Fixed: 7, Each: 3, Left: 5},
		{Law: even(4), Each: mostCost, Short: 1},
		{Law: even(4), Fixed: mostCost, Short: 1},
	} {
		for _, r := range rules(t, s, 3) {
			ruled(t, r, -far, -far, nil)
		}
	}
}

// TestRulesLeast: 12.2: of like amounts the least.
func TestRulesLeast(t *testing.T) {
	// With 0 and with 1 it costs a half.
	ruled(t, rules(t, store.Shop{Law: even(2), Left: 1, Short: 1}, 1)[0], 0, 0, map[int]string{-1: "1/2", 0: "1/2", 1: "1/2", 2: "3/2"})
	// From 2 on nothing costs anything.
	ruled(t, rules(t, store.Shop{Law: even(3), Short: 1}, 1)[0], 2, 2, map[int]string{-40: "0", 1: "0", 2: "0", 40: "0"})
	// To stay is no dearer than to go.
	ruled(t, rules(t, store.Shop{Law: sure(1), Fixed: 3, Short: 1}, 1)[0], -2, 1, map[int]string{-3: "3", -2: "3", -1: "2", 0: "1", 1: "0"})
	ruled(t, rules(t, store.Shop{Law: sure(1), Each: 1, Short: 1}, 1)[0], -40, -40, map[int]string{-40: "41", 0: "1", 1: "0"})
}

// TestRulesTop: 12.2: one may go up to 40, no further.
func TestRulesTop(t *testing.T) {
	s := store.Shop{Law: sure(8), Fixed: mostCost, Short: mostCost}
	for period, r := range rules(t, s, mostPeriods) {
		// From 8 for each period on nothing costs anything.
		high := 8 * (period + 1)
		is(t, r.Cost[at(high)], nil, "0", period)
		is(t, r.Cost[at(high-1)], nil, "1000", period)
		// One order is enough; so from 8 on it may as well be made a period later, from 7 on in the last one one may be owed.
		low := 8
		if period == 0 {
			low = 7
		}
		ruled(t, r, low, high, map[int]string{-40: "1000", 40: "0"})
	}
}

// TestRulesBottom: 12.2: what is below -40 is -40 in the period behind.
func TestRulesBottom(t *testing.T) {
	s := store.Shop{Law: law(t, "0 1/2 0 0 0 0 0 0 1/2"), Each: mostCost, Short: 1}
	three := rules(t, s, 3)
	ruled(t, three[0], -far, -far, map[int]string{-40: "89/2", -39: "87/2", 0: "9/2", 8: "0"})
	ruled(t, three[1], -far, -far, map[int]string{-40: "89", -39: "88", -38: "173/2", -37: "85", -32: "155/2", 40: "0"})
	ruled(t, three[2], -far, -far, map[int]string{-40: "267/2"})
}

// TestRulesWhole: 12.2: a whole list by hand.
func TestRulesWhole(t *testing.T) {
	r := rules(t, store.Shop{Law: even(2), Fixed: 2, Each: 1, Left: 1, Short: 4}, 1)[0]
	ruled(t, r, 0, 1, nil)
	for x := -far; x <= far; x++ {
		want := part(2*x-1, 2) // x - 1/2 are left
		if x < 0 {
			want = part(2*(3-x)+1, 2) // an order, 1 - x pieces, and half a piece that is left
		}
		if x == 0 {
			want = ratio.Whole(2)
		}
		is(t, r.Cost[at(x)], nil, want.Text(), x)
	}
}

// reckoned is, of each period of a shop whose law is weights, to where one goes
// from each amount, and what it costs, by the words of 12.2, in whole numbers:
// the costs of the last one times the weights' sum, of the one ahead of it times
// that again, and so on.
func reckoned(s store.Shop, weights []int, all, periods int) (goals, costs [][]int) {
	behind, scale := make([]int, 2*far+1), 1
	for range periods {
		var to, least []int
		for x := -far; x <= far; x++ {
			goal, cost := x, math.MaxInt
			for y := x; y <= far; y++ {
				sum := 0
				if y > x {
					sum = (s.Fixed + s.Each*(y-x)) * scale * all
				}
				for w, weight := range weights {
					rest := y - w
					if rest > 0 {
						sum += weight * scale * s.Left * rest
					} else {
						sum += weight * scale * s.Short * -rest
					}
					sum += weight * behind[at(max(rest, -far))]
				}
				if sum < cost {
					goal, cost = y, sum
				}
			}
			to, least = append(to, goal), append(least, cost)
		}
		goals, costs = append(goals, to), append(costs, least)
		behind, scale = least, scale*all
	}
	return goals, costs
}

// ends is the Low and the High of where one goes to from each amount.
func ends(goals []int) (low, high int) {
	low = -far
	for goals[at(low)] != low {
		low++
	}
	return low, goals[0]
}

// someShop is a shop that looks drawn, the same each time; its law's weights, and
// their sum.
func someShop(die *rand.Rand) (store.Shop, []int, int) {
	parts := weights(die, mostAmounts)
	l, all := shared(parts)
	most := []int{3, 10, 40, mostCost}[die.Intn(4)]
	s := store.Shop{Law: l, Fixed: die.Intn(2 * most), Each: die.Intn(4), Left: die.Intn(4), Short: die.Intn(most)}
	s.Fixed = min(s.Fixed, mostCost)
	return s, parts, all
}

// TestRulesDrawn: against the words.
func TestRulesDrawn(t *testing.T) {
	die := rand.New(rand.NewSource(2))
	for range 150 {
		s, parts, all := someShop(die)
		periods := 1 + die.Intn(mostPeriods)
		goals, costs := reckoned(s, parts, all, periods)
		scale := 1
		for period, r := range rules(t, s, periods) {
			low, high := ends(goals[period])
			ruled(t, r, low, high, nil)
			scale *= all
			for i, cost := range costs[period] {
				if want := part(cost, scale); r.Cost[i].Cmp(want) != 0 {
					t.Fatalf("%v, period %d, from %d: %s, want %s", s, period, i-far, r.Cost[i].Text(), want.Text())
				}
			}
		}
	}
}

// TestRulesMost: the greatest numbers of all, against the words.
func TestRulesMost(t *testing.T) {
	parts := []int{1, 1, 1, 1, 1, 1, 1, 1, 1}
	l, all := shared(parts)
	for set := range 16 {
		s := store.Shop{Law: l, Fixed: set & 1 * mostCost, Each: set >> 1 & 1 * mostCost, Left: set >> 2 & 1 * mostCost, Short: set >> 3 & 1 * mostCost}
		goals, costs := reckoned(s, parts, all, mostPeriods)
		scale := 1
		for period, r := range rules(t, s, mostPeriods) {
			scale *= all
			low, high := ends(goals[period])
			ruled(t, r, low, high, map[int]string{-far: part(costs[period][0], scale).Text(), far: part(costs[period][2*far], scale).Text()})
		}
	}
}

// TestRulesBegin: the rules of fewer periods are the first ones of those of more:
// the last period is the first rule.
func TestRulesBegin(t *testing.T) {
	die := rand.New(rand.NewSource(3))
	for range 20 {
		s, _, _ := someShop(die)
		all := rules(t, s, mostPeriods)
		for periods := 1; periods <= mostPeriods; periods++ {
			for i, r := range rules(t, s, periods) {
				if r.Low != all[i].Low || r.High != all[i].High || ratio.Words(r.Cost) != ratio.Words(all[i].Cost) {
					t.Errorf("%v: rule %d of %d periods is another one", s, i, periods)
				}
			}
		}
	}
}

// oddCosts is the costs of a shop by the words of 12.2, by the library, and
// where one goes to.
func oddCosts(t *testing.T, s store.Shop, behind []*big.Rat) (costs []*big.Rat, goals []int) {
	t.Helper()
	shares := known(t, s.Law...)
	var means []*big.Rat
	for y := -far; y <= far; y++ {
		sum := new(big.Rat)
		for w, share := range shares {
			rest := y - w
			each := new(big.Rat).Set(behind[at(max(rest, -far))])
			each.Add(each, whole(s.Left*max(0, rest)+s.Short*max(0, -rest)))
			sum.Add(sum, each.Mul(each, share))
		}
		means = append(means, sum)
	}
	for x := -far; x <= far; x++ {
		goal, least := x, means[at(x)]
		for y := x + 1; y <= far; y++ {
			sum := new(big.Rat).Add(means[at(y)], whole(s.Fixed+s.Each*(y-x)))
			if sum.Cmp(least) < 0 {
				goal, least = y, sum
			}
		}
		costs, goals = append(costs, least), append(goals, goal)
	}
	return costs, goals
}

// TestRulesOdd: a law of as many numbers as can be, with many digits each.
func TestRulesOdd(t *testing.T) {
	s := store.Shop{Law: odd(t, mostAmounts), Fixed: 37, Each: 3, Left: 2, Short: 11}
	behind := make([]*big.Rat, 2*far+1)
	for i := range behind {
		behind[i] = new(big.Rat)
	}
	for period, r := range rules(t, s, mostPeriods) {
		costs, goals := oddCosts(t, s, behind)
		low, high := ends(goals)
		ruled(t, r, low, high, nil)
		if ratio.Words(r.Cost) != words(costs) {
			t.Errorf("period %d has other costs", period)
		}
		behind = costs
	}
}

// TestScarf: what a period costs is K-convex, and so nothing is ordered from Low
// on: wherever nothing falls below -40.
func TestScarf(t *testing.T) {
	die := rand.New(rand.NewSource(4))
	for range 40 {
		s, parts, all := someShop(die)
		goals, _ := reckoned(s, parts, all, 3)
		scale := 1
		for period, r := range rules(t, s, 3) {
			scale *= all
			first := -far + (len(parts)-1)*period
			convex(t, scaled(r.Cost[at(first):], scale), s.Fixed*scale)
			for x := r.Low; first <= r.Low && x <= far; x++ {
				if goals[period][at(x)] != x {
					t.Errorf("%v, period %d: from %d up to %d, though %d is enough", s, period, x, goals[period][at(x)], r.Low)
				}
			}
		}
	}
}

// scaled is fractions times a number, by which they are whole.
func scaled(l []ratio.Ratio, scale int) []int {
	var out []int
	for _, a := range l {
		n, _ := a.Mul(ratio.Whole(scale)).Floor()
		out = append(out, n)
	}
	return out
}

// convex fails unless numbers are K-convex.
func convex(t *testing.T, l []int, k int) {
	t.Helper()
	for x := range l {
		for a := range len(l) - x {
			for b := 1; b <= x; b++ {
				if b*(k+l[x+a]) < b*l[x]+a*(l[x]-l[x-b]) {
					t.Fatalf("not K-convex at %d, %d on, %d back", x, a, b)
				}
			}
		}
	}
}

// TestHandedInStays: P4: nothing that is handed in is written into, nor what
// stands behind a list's length.
func TestHandedInStays(t *testing.T) {
	whole := law(t, "1/4 1/4 1/2 0 0 7 8 9")
	before := ratio.Words(whole)
	l := whole[:5]
	s := store.Shop{Law: l, Fixed: 5, Each: 1, Left: 1, Short: 4}
	says(t, store.Check(s), api.OK, "Check")
	rules(t, s, 2)
	store.News(l, ratio.Whole(2), ratio.Whole(3))
	store.Loss(l, ratio.Whole(2), ratio.Whole(3), 2)
	if ratio.Words(whole) != before {
		t.Errorf("a law was written into: %s", ratio.Words(whole))
	}
}

// TestAnswersAreFresh: P4: what comes out is the caller's, each Cost a list of its
// own; asked again, the same comes, though all was spoiled.
func TestAnswersAreFresh(t *testing.T) {
	die := rand.New(rand.NewSource(5))
	for range 10 {
		s, parts, _ := someShop(die)
		first := rules(t, s, mostPeriods)
		var want []string
		for _, r := range first {
			want = append(want, ratio.Words(r.Cost))
		}
		for i := range s.Law {
			s.Law[i] = ratio.Whole(77)
		}
		for i, r := range first {
			if ratio.Words(r.Cost) != want[i] {
				t.Errorf("a list hangs on other memory")
			}
			list := r.Cost[:cap(r.Cost)]
			for k := range list {
				list[k] = ratio.Whole(-7)
			}
		}
		s.Law, _ = shared(parts)
		for i, r := range rules(t, s, mostPeriods) {
			if ratio.Words(r.Cost) != want[i] {
				t.Errorf("asked again, something else comes")
			}
		}
	}
	l := law(t, "1/4 1/4 1/2")
	kept := slices.Clone(l)
	n, loss, err := store.News(l, ratio.Whole(3), ratio.Whole(1))
	is(t, loss, err, "3/4", "News")
	clear(l)
	is(t, loss, nil, "3/4", "News, behind")
	best(t, kept, ratio.Whole(3), ratio.Whole(1), n, "3/4")
}
