package bandit_test

import (
	"math/big"
	"math/rand"
	"testing"

	"foresight/api"
	"foresight/bandit"
	"foresight/ratio"
)

// The arm of the document's example.
const example = "1 3 0 | 0 1 0; 0 0 1; 1/2 0 1/2"

// 15.2: While by hand: one pulls once, whether the state is one of some or not,
// and stops at the first state that is none.
func TestWhile(t *testing.T) {
	for _, c := range []struct {
		arm, worth string
		state      int
		some, want string
	}{
		{"5 | 1", "1/2", 0, "n", "5"}, {"5 | 1", "1/2", 0, "y", "5"},
		{"-5 | 1", "0", 0, "n", "-5"}, {"-5/7 | 1", "6/7", 0, "y", "-5/7"},
		{example, "1/2", 0, "nnn", "1"}, {example, "1/2", 0, "ynn", "1"},
		{example, "1/2", 0, "nyn", "5/3"}, {example, "1/2", 0, "yyn", "5/3"},
		{example, "1/2", 0, "nny", "1"}, {example, "1/2", 0, "nyy", "15/11"},
		{example, "1/2", 0, "yyy", "15/11"},
		{example, "1/2", 1, "nnn", "3"}, {example, "1/2", 1, "yyn", "3"},
		{example, "1/2", 1, "nny", "9/5"}, {example, "1/2", 1, "yny", "19/11"},
		{example, "1/2", 2, "nnn", "0"}, {example, "1/2", 2, "nny", "0"},
		{example, "1/2", 2, "ynn", "1/5"}, {example, "1/2", 2, "yyn", "5/11"},
		{example, "1/2", 2, "yny", "1/5"}, {example, "1/2", 2, "nyn", "0"},
		{example, "0", 0, "yyy", "1"}, {example, "0", 1, "yyy", "3"}, {example, "0", 2, "yyy", "0"},
		{"1 0 | 1/2 1/2; 0 1", "1/2", 0, "yn", "1"}, {"1 0 | 1/2 1/2; 0 1", "1/2", 0, "ny", "2/3"},
		{"1 0 | 1/2 1/2; 0 1", "1/2", 0, "yy", "2/3"}, {"1 0 | 0 1; 1 0", "1/2", 1, "yn", "1/3"},
		{"0 1 | 0 1; 0 1", "9/10", 0, "ny", "9/10"}, {"0 1 | 0 1; 0 1", "9/10", 0, "yn", "0"},
	} {
		got, err := bandit.While(arm(t, c.arm), one(t, c.worth), c.state, flags(c.some))
		is(t, got, err, c.want, c.arm, c.worth, c.state, c.some)
	}
}

// 15.2: While of what looks drawn, by all sets of states, against the library.
func TestWhileDrawn(t *testing.T) {
	die := rand.New(rand.NewSource(2))
	for i := range 60 {
		a, worth := drawn(die, 1+i%mostStates), drawnWorth(die)
		if i%7 == 0 {
			a, worth = long(t, a), ratio.Whole(1).Sub(one(t, "~"))
		}
		for _, some := range sets(len(a.Pay)) {
			for s, want := range whiles(t, a, worth, some) {
				got, err := bandit.While(a, worth, s, some)
				is(t, got, err, want.RatString(), written(a), worth.Text(), s, some)
			}
		}
	}
}

// 15.2: While, pull by pull, from its own words: how likely one is still at it,
// and where. What may come behind the last pull that is looked at is bounded.
func TestWhileByPulls(t *testing.T) {
	die := rand.New(rand.NewSource(3))
	const pulls = 25
	for i := range 40 {
		a, worth := drawn(die, 1+i%4), part(die.Intn(3), 3)
		c, state := chainOf(t, a), i%4*die.Intn(2)%len(a.Pay)
		for _, some := range sets(len(a.Pay)) {
			at := like(len(a.Pay), new(big.Rat))
			at[state] = big.NewRat(1, 1)
			pays, times, weight := new(big.Rat), new(big.Rat), big.NewRat(1, 1)
			for range pulls {
				later := make([]*big.Rat, len(at))
				for s := range later {
					later[s] = new(big.Rat)
				}
				for s, likely := range at {
					now := new(big.Rat).Mul(likely, weight)
					times.Add(times, now)
					pays.Add(pays, now.Mul(now, c.pay[s]))
					for k, share := range c.next[s] {
						if some[k] {
							later[k].Add(later[k], new(big.Rat).Mul(likely, share))
						}
					}
				}
				at = later
				weight.Mul(weight, known(t, worth))
			}
			got, err := bandit.While(a, worth, state, some)
			says(t, err, api.OK, written(a))
			// No pay is beyond 6, and worth is at most 2/3: all later pulls
			// count at most 3 times the weight.
			far := new(big.Rat).Sub(pays, new(big.Rat).Mul(known(t, got), times))
			if far.Abs(far).Cmp(weight.Mul(weight, big.NewRat(40, 1))) > 0 {
				t.Errorf("%s, %s, %d, %v: %s is too far from %s", written(a), worth.Text(), state, some, got.Text(), new(big.Rat).Quo(pays, times).FloatString(9))
			}
		}
	}
}

// 15.2: Index by hand; the document's example among them.
func TestIndex(t *testing.T) {
	for _, c := range []struct{ arm, worth, want string }{
		{example, "1/2", "5/3 3 5/11"},
		{example, "0", "1 3 0"},
		{"5 | 1", "1/2", "5"},
		{"-5 | 1", "~", "-5"},
		{"0 | 1", "6/7", "0"},
		{"0 1 | 0 1; 0 1", "9/10", "9/10 1"},
		{"0 1 | 0 1; 1 0", "9/10", "9/19 1"},
		{"1 0 | 0 1; 1 0", "9/10", "1 9/19"},
		{"1 0 | 0 1; 0 1", "9/10", "1 0"},
		{"1 1 | 0 1; 1 0", "1/2", "1 1"},
		{"-2 -2 -2 | 0 1 0; 0 0 1; 1/3 1/3 1/3", "2/3", "-2 -2 -2"},
		{"0 0 0 0 1 | 0 1 0 0 0; 0 0 1 0 0; 0 0 0 1 0; 0 0 0 0 1; 0 0 0 0 1", "1/2", "1/16 1/8 1/4 1/2 1"},
		{"-3 4 -1 | 0 1 0; 0 0 1; 1 0 0", "1/2", "-2/3 4 -6/7"},
		{"4 3 2 1 0 | 0 1 0 0 0; 0 0 1 0 0; 0 0 0 1 0; 0 0 0 0 1; 1 0 0 0 0", "1/2", "4 3 2 40/31 8/5"},
	} {
		got, err := bandit.Index(arm(t, c.arm), one(t, c.worth))
		are(t, got, err, c.want, c.arm, c.worth)
	}
}

// 15.2 (Gittins): Index is the greatest While over all sets of states, by the
// library, of arms with like states, too; no While of the program's is above
// it, and one is like it.
func TestIndexDrawn(t *testing.T) {
	die := rand.New(rand.NewSource(4))
	alike := 0
	for i := range 120 {
		a, worth := drawn(die, 1+i%mostStates), drawnWorth(die)
		if i%9 == 0 {
			a, worth = long(t, a), ratio.Whole(1).Sub(one(t, "~"))
		}
		want := gittins(t, a, worth)
		got, err := bandit.Index(a, worth)
		are(t, got, err, words(want), written(a), worth.Text())
		for s := range got {
			found := false
			for _, some := range sets(len(got)) {
				rate, err := bandit.While(a, worth, s, some)
				says(t, err, api.OK, written(a))
				if rate.Cmp(got[s]) > 0 {
					t.Errorf("%s, %s: While of %d by %v is %s, its index is %s", written(a), worth.Text(), s, some, rate.Text(), got[s].Text())
				}
				found = found || rate.Cmp(got[s]) == 0
			}
			if !found {
				t.Errorf("%s, %s: no While of %d is its index, %s", written(a), worth.Text(), s, got[s].Text())
			}
			for k := range s {
				if got[k].Cmp(got[s]) == 0 {
					alike++
				}
			}
		}
	}
	if alike < 10 {
		t.Errorf("%d of the drawn states have like indices: too few", alike)
	}
}

// 15.2: two states differ by hardly anything.
func TestIndexNearlyAlike(t *testing.T) {
	least := one(t, "~")
	for states := 1; states <= mostStates; states++ {
		for s := range states {
			a := bandit.Arm{}
			for k := range states {
				a.Pay = append(a.Pay, part(1, 3))
				a.Next = append(a.Next, sure(states, k))
			}
			a.Pay[s] = a.Pay[s].Add(least)
			got, err := bandit.Index(a, part(1, 2))
			are(t, got, err, ratio.Words(a.Pay), "each stays", states, s)
		}
	}
}

// 15.2: Again by hand: to go on, or to go back, whichever is more.
func TestAgain(t *testing.T) {
	for _, c := range []struct {
		arm, worth string
		state      int
		want       string
	}{
		{"5 | 1", "1/2", 0, "5"},
		{"-5 | 1", "6/7", 0, "-5"},
		{"5 | 1", "0", 0, "5"},
		{example, "1/2", 0, "5/3"},
		{example, "1/2", 1, "3"},
		{example, "1/2", 2, "5/11"},
		{example, "0", 0, "1"},
		{example, "0", 1, "3"},
		{example, "0", 2, "0"},
		{"0 1 | 0 1; 0 1", "9/10", 0, "9/10"},
		{"0 1 | 0 1; 1 0", "9/10", 0, "9/19"},
		{"1 0 | 0 1; 0 1", "9/10", 0, "1"},
		{"1 0 | 0 1; 0 1", "9/10", 1, "0"},
	} {
		got, err := bandit.Again(arm(t, c.arm), one(t, c.worth), c.state)
		is(t, got, err, c.want, c.arm, c.worth, c.state)
	}
}

// anew is the most that can be had in a state, times 1 - worth, by the library:
// the best of all plans, which tell for each state whether to go back there.
func anew(t *testing.T, a bandit.Arm, worth ratio.Ratio, state int) *big.Rat {
	t.Helper()
	var most *big.Rat
	for _, plan := range sets(len(a.Pay)) {
		c := chainOf(t, a)
		for s, back := range plan {
			if back {
				c.pay[s], c.next[s] = c.pay[state], c.next[state]
			}
		}
		v := c.total(known(t, worth))[state]
		if most == nil || v.Cmp(most) > 0 {
			most = v
		}
	}
	return most.Mul(most, new(big.Rat).Sub(big.NewRat(1, 1), known(t, worth)))
}

// 15.2: Again is the best of all plans; and it is the index: two ways to say one
// thing.
func TestAgainDrawn(t *testing.T) {
	die := rand.New(rand.NewSource(5))
	for i := range 120 {
		a, worth := drawn(die, 1+i%mostStates), drawnWorth(die)
		if i%9 == 0 {
			a, worth = long(t, a), ratio.Whole(1).Sub(one(t, "~"))
		}
		index, err := bandit.Index(a, worth)
		says(t, err, api.OK, "Index", written(a))
		for s := range a.Pay {
			got, err := bandit.Again(a, worth, s)
			is(t, got, err, anew(t, a, worth, s).RatString(), written(a), worth.Text(), s)
			is(t, got, err, index[s].Text(), "Index", written(a), worth.Text(), s)
		}
	}
}
