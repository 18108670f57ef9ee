package choice_test

import (
	"math"
	"math/big"
	"math/rand"
	"slices"
	"testing"

	"foresight/api"
	"foresight/choice"
	"foresight/ratio"
)

// stayOrGo: in 0 one stays or goes to 1, which one never leaves.
const stayOrGo = "1: 1 0, 0: 0 1; 3: 0 1"

// toymaker is Howard's own: to advertise or not, to search for a toy or not.
const toymaker = "6: 1/2 1/2, 4: 4/5 1/5; -3: 2/5 3/5, -5: 7/10 3/10"

// 13.2: Value by hand.
func TestValue(t *testing.T) {
	for _, c := range []struct{ worth, states, acts, want string }{
		{"0", "5: 1", "0", "5"},
		{"1/2", "5: 1", "0", "10"},
		{"3/4", "-1/3: 1, 2: 1", "0", "-4/3"},
		{"3/4", "-1/3: 1, 2: 1", "1", "8"},
		{"1/2", stayOrGo, "0 0", "2 6"},
		{"1/2", stayOrGo, "1 0", "3 6"},
		{"0", stayOrGo, "1 0", "0 3"},
		{"9/10", toymaker, "0 0", "1410/91 510/91"},
		{"9/10", toymaker, "1 1", "2020/91 160/13"},
		{"1/2", "1: 0 1 0; 2: 0 0 1; 4: 1 0 0", "0 0 0", "24/7 34/7 40/7"},
	} {
		got, err := choice.Value(model(t, c.worth, c.states), numbers(t, c.acts))
		are(t, got, err, c.want, c.worth, c.states, c.acts)
	}
}

// 13.2: Value is the v that is the worth of each act by v: as Worth is below 1,
// there is no other one.
func TestValueDrawn(t *testing.T) {
	die := rand.New(rand.NewSource(1))
	for i := range 300 {
		m := drawn(die, 1+i%api.MaxStates, 4)
		acts := picked(die, m)
		got, err := choice.Value(m, acts)
		if len(got) != len(m.States) {
			t.Fatalf("%s by %v: %d numbers, error %v", written(m), acts, len(got), err)
		}
		v := allKnown(t, got)
		var want []*big.Rat
		for s, n := range acts {
			want = append(want, worth(t, m, m.States[s][n], v))
		}
		are(t, got, err, words(want), m.Worth.Text(), written(m), acts)
	}
}

// refusedActs fails unless Value and Often say one thing of acts.
func refusedActs(t *testing.T, m choice.Model, acts []int, want api.Errno) {
	t.Helper()
	got, err := choice.Value(m, acts)
	nothing(t, got, nil, err, want, "Value", written(m), acts)
	got, err = choice.Often(m, acts)
	nothing(t, got, nil, err, want, "Often", written(m), acts)
}

// 13.2, 13.3: as many acts as states, then each one that there is in its own
// state; ahead of ErrNone, as one may stay in each state.
func TestWrongActs(t *testing.T) {
	for states := 1; states <= api.MaxStates; states++ {
		m := choice.Model{}
		for s := range states {
			m.States = append(m.States, like(1+s, choice.Act{Next: sure(states, s)}))
		}
		for _, acts := range [][]int{nil, {}, make([]int, states-1), make([]int, states+1), like(states+1, -1), like(states-1, 99)} {
			refusedActs(t, m, acts, api.ErrForm)
		}
		for s := range states {
			for _, n := range []int{-1, s + 1, api.MaxStates, math.MinInt, math.MaxInt} {
				acts := make([]int, states)
				acts[s] = n
				refusedActs(t, m, acts, api.ErrRange)
			}
			acts := make([]int, states)
			acts[s] = s
			got, err := choice.Value(m, acts)
			are(t, got, err, ratio.Words(make([]ratio.Ratio, states)), "the last act of", s)
		}
	}
}

// 13.1, 13.2: Step by hand; of like acts the first.
func TestStep(t *testing.T) {
	for _, c := range []struct{ worth, states, v, want, acts string }{
		{"0", "5: 1", "7", "5", "0"},
		{"1/2", "5: 1", "7", "17/2", "0"},
		{"1/2", "-5: 1, -4: 1, -6: 1", "-8", "-8", "1"},
		{"1/2", stayOrGo, "0 0", "1 3", "0 0"},
		{"1/2", stayOrGo, "0 2", "1 4", "0 0"},
		{"1/2", stayOrGo, "0 4", "2 5", "1 0"},
		{"0", stayOrGo, "0 99", "1 3", "0 0"},
		{"1/2", "0: 0 1, 1: 1 0; 3: 0 1", "0 2", "1 4", "0 0"},
		{"1/2", "1: 1, 2: 1, 2: 1, 1: 1, 2: 1", "0", "2", "1"},
		{"1/2", "-1: 1, -1: 1", "0", "-1", "0"},
		{"1/2", "0: 1/2 1/2, 1: 1 0, 0: 0 1; 0: 1 0, 0: 0 1, 0: 1/3 2/3", "1 -1", "3/2 1/2", "1 0"},
		{"1/2", "0: 1/2 1/2, 0: 1/3 2/3, 0: 1/4 3/4; 0: 1/4 3/4, 0: 1/3 2/3, 0: 1/2 1/2", "0 12", "9/2 9/2", "2 0"},
		{"9/10", toymaker, "1410/91 510/91", "1471/91 571/91", "1 1"},
	} {
		got, acts, err := choice.Step(model(t, c.worth, c.states), list(t, c.v))
		are(t, got, err, c.want, c.worth, c.states, c.v)
		if !slices.Equal(acts, numbers(t, c.acts)) {
			t.Errorf("%s %s %s: %v, want %s", c.worth, c.states, c.v, acts, c.acts)
		}
	}
}

// 13.2: acts whose worths are alike, or differ by hardly anything.
func TestStepNearlyAlike(t *testing.T) {
	least := one(t, "~")
	for place := range api.MaxStates {
		acts := like(api.MaxStates, choice.Act{Gain: one(t, "1/3"), Next: sure(1, 0)})
		acts[place].Gain = acts[place].Gain.Add(least)
		m := choice.Model{States: [][]choice.Act{acts}, Worth: one(t, "1/7")}
		_, which, err := choice.Step(m, list(t, "5"))
		if err != nil || !slices.Equal(which, []int{place}) {
			t.Errorf("the greatest at %d: %v, error %v", place, which, err)
		}
		acts[place].Gain = one(t, "1/3").Sub(least)
		_, which, err = choice.Step(m, list(t, "5"))
		want := 0
		if place == 0 {
			want = 1
		}
		if err != nil || !slices.Equal(which, []int{want}) {
			t.Errorf("the least at %d: %v, error %v", place, which, err)
		}
	}
}

// 13.2: Step of what looks drawn, against the library.
func TestStepDrawn(t *testing.T) {
	die := rand.New(rand.NewSource(2))
	later := 0
	for i := range 300 {
		m := drawn(die, 1+i%api.MaxStates, api.MaxStates)
		v := some(die, len(m.States))
		if i%3 == 0 {
			v = like(len(m.States), part(i, 7))
		}
		got, acts, err := choice.Step(m, v)
		want, which := stepped(t, m, allKnown(t, v))
		are(t, got, err, words(want), m.Worth.Text(), written(m), ratio.Words(v))
		if !slices.Equal(acts, which) {
			t.Errorf("%s %s: %v, want %v", written(m), ratio.Words(v), acts, which)
		}
		if slices.Max(which) > 0 {
			later++
		}
	}
	if later < 100 {
		t.Errorf("in %d of the drawn ones a later act is the best: too few", later)
	}
}

// 13.2, 13.3: v and end have as many numbers as there are states.
func TestWrongV(t *testing.T) {
	for states := 1; states <= api.MaxStates; states++ {
		m := ring(t, states, 2)
		for _, n := range []int{0, states - 1, states + 1, api.MaxSize} {
			v := like(n, ratio.Whole(1))
			got, acts, err := choice.Step(m, v)
			nothing(t, got, acts, err, api.ErrForm, "Step", states, n)
			low, high, err := choice.Bounds(m, v)
			nothing(t, low, nil, err, api.ErrForm, "Bounds, low", states, n)
			nothing(t, high, nil, err, api.ErrForm, "Bounds, high", states, n)
			for _, times := range []int{0, 1, 20} {
				got, err = choice.Last(m, times, v)
				nothing(t, got, nil, err, api.ErrForm, "Last", states, n, times)
			}
		}
	}
}

// best fails unless Best tells just these acts, and what each state is worth.
func best(t *testing.T, m choice.Model, acts []int, v string) {
	t.Helper()
	gotActs, got, err := choice.Best(m)
	are(t, got, err, v, "Best", m.Worth.Text(), written(m))
	if !slices.Equal(gotActs, acts) {
		t.Errorf("%s %s: %v, want %v", m.Worth.Text(), written(m), gotActs, acts)
	}
}

// 13.2: Best by hand; of like acts the first, though a later one was found.
func TestBest(t *testing.T) {
	for _, c := range []struct{ worth, states, acts, v string }{
		{"0", "5: 1", "0", "5"},
		{"1/2", "5: 1, 6: 1, 6: 1, 4: 1", "1", "12"},
		{"1/2", "-5: 1, -4: 1", "1", "-8"},
		{"0", stayOrGo, "0 0", "1 3"},
		{"1/4", stayOrGo, "0 0", "4/3 4"},
		{"1/3", stayOrGo, "0 0", "3/2 9/2"},
		{"1/3", "0: 0 1, 1: 1 0; 3: 0 1", "0 0", "3/2 9/2"},
		{"1/2", stayOrGo, "1 0", "3 6"},
		{"9/10", toymaker, "1 1", "2020/91 160/13"},
		{"1/10", toymaker, "0 0", "610/99 -290/99"},
		// To go and to stay in 0 are alike, but only once the later act is done in 1.
		{"1/3", "0: 0 1, 1: 1 0; 0: 0 1, 3: 0 1", "0 1", "3/2 9/2"},
		{"1/3", "1: 1 0, 0: 0 1; 6: 0 1, 3: 0 1, 0: 1 0", "1 0", "3 9"},
		// To stay, at once or behind one more step, is worth the same: 0 and 1 in state 0.
		{"1/2", "1: 1 0, 1: 0 1; 1: 0 1, 1: 1 0", "0 0", "2 2"},
		// From 0 on each state is the better the later it is; all go there.
		{"1/2", "0: 1 0 0, 0: 0 1 0, 0: 0 0 1; 0: 1 0 0, 0: 0 1 0, 0: 0 0 1; 0: 1 0 0, 0: 0 1 0, 1: 0 0 1", "2 2 2", "1 1 2"},
	} {
		best(t, model(t, c.worth, c.states), numbers(t, c.acts), c.v)
	}
}

// 13.2: what is the best at once is not the best: one goes down a row of states
// at a loss, for what comes at its end.
func TestBestLongWay(t *testing.T) {
	const states = api.MaxStates
	m := choice.Model{Worth: one(t, "9/10")}
	for s := range states {
		m.States = append(m.States, []choice.Act{
			{Gain: ratio.Whole(1), Next: sure(states, s)},
			{Gain: ratio.Whole(-1), Next: sure(states, min(s+1, states-1))},
		})
	}
	m.States[states-1][0].Gain = ratio.Whole(100)
	want := make([]ratio.Ratio, states)
	want[states-1] = ratio.Whole(1000)
	for s := states - 2; s >= 0; s-- {
		want[s] = want[s+1].Mul(m.Worth).Sub(ratio.Whole(1))
	}
	acts := like(states, 1)
	acts[states-1] = 0
	best(t, m, acts, ratio.Words(want))
}

// plans is all ways to choose an act of each state.
func plans(m choice.Model) [][]int {
	out := [][]int{nil}
	for _, acts := range m.States {
		var more [][]int
		for _, plan := range out {
			for n := range acts {
				more = append(more, append(slices.Clone(plan), n))
			}
		}
		out = more
	}
	return out
}

// 13.2 (Howard): no plan is worth more anywhere than Best, some plan is worth as
// much everywhere; and Step makes of it the same, and tells the same acts.
func TestBestDrawn(t *testing.T) {
	die := rand.New(rand.NewSource(3))
	for i := range 160 {
		m := drawn(die, 1+i%4, 3)
		most := make([]ratio.Ratio, len(m.States))
		for i, plan := range plans(m) {
			v, err := choice.Value(m, plan)
			says(t, err, api.OK, "Value", written(m), plan)
			for s := range v {
				if i == 0 || v[s].Cmp(most[s]) > 0 {
					most[s] = v[s]
				}
			}
		}
		ahead, acts := stepped(t, m, allKnown(t, most))
		if words(ahead) != ratio.Words(most) {
			t.Fatalf("%s %s: Step makes %s of %s", m.Worth.Text(), written(m), words(ahead), ratio.Words(most))
		}
		best(t, m, acts, ratio.Words(most))
	}
}

// 13.2: as many states and acts as there may be, with fractions of many digits.
func TestBestOfMany(t *testing.T) {
	die := rand.New(rand.NewSource(4))
	for i := range 12 {
		m := drawn(die, api.MaxStates, api.MaxStates)
		for len(m.States[0]) < api.MaxStates {
			m.States[0] = append(m.States[0], choice.Act{Gain: part(1, 3), Next: shares(die, api.MaxStates)})
		}
		if i%2 == 1 {
			m.Worth = ratio.Whole(1).Sub(one(t, "~"))
			m.States[1][0].Gain = one(t, "~")
		}
		acts, v, err := choice.Best(m)
		ahead, which := stepped(t, m, allKnown(t, v))
		are(t, v, err, words(ahead), "Best", m.Worth.Text(), written(m))
		if !slices.Equal(acts, which) {
			t.Errorf("%s %s: %v, want %v", m.Worth.Text(), written(m), acts, which)
		}
	}
}

// 13.2: Bounds by hand: what has grown, and what has become less.
func TestBounds(t *testing.T) {
	for _, c := range []struct{ worth, states, v, low, high string }{
		{"0", "5: 1", "7", "5", "5"},
		{"1/2", "5: 1", "7", "10", "10"},
		{"3/4", "5: 1", "100", "20", "20"},
		{"1/2", stayOrGo, "0 0", "2 4", "4 6"},
		{"1/2", stayOrGo, "3 6", "3 6", "3 6"},
		{"1/2", stayOrGo, "8 8", "2 4", "4 6"},
		{"0", stayOrGo, "8 -8", "1 3", "1 3"},
		{"2/3", stayOrGo, "0 3", "6 9", "6 9"},
		{"2/3", stayOrGo, "0 6", "6 9", "12 15"},
		{"9/10", toymaker, "0 0", "-21 -30", "60 51"},
	} {
		low, high, err := choice.Bounds(model(t, c.worth, c.states), list(t, c.v))
		are(t, low, err, c.low, "low", c.worth, c.states, c.v)
		are(t, high, err, c.high, "high", c.worth, c.states, c.v)
	}
}

// 13.2 (MacQueen): Bounds of what looks drawn, by the library; and Best is
// between them.
func TestBoundsDrawn(t *testing.T) {
	die := rand.New(rand.NewSource(5))
	for i := range 200 {
		m := drawn(die, 1+i%api.MaxStates, 4)
		v := some(die, len(m.States))
		before, one := allKnown(t, v), big.NewRat(1, 1)
		ahead, _ := stepped(t, m, before)
		var grown []*big.Rat
		for s := range ahead {
			grown = append(grown, new(big.Rat).Sub(ahead[s], before[s]))
		}
		w := known(t, m.Worth)
		times := new(big.Rat).Quo(w, new(big.Rat).Sub(one, w))
		with := func(more *big.Rat) string {
			var out []*big.Rat
			for _, a := range ahead {
				out = append(out, new(big.Rat).Add(a, new(big.Rat).Mul(times, more)))
			}
			return words(out)
		}
		low, high, err := choice.Bounds(m, v)
		are(t, low, err, with(slices.MinFunc(grown, (*big.Rat).Cmp)), "low", m.Worth.Text(), written(m), ratio.Words(v))
		are(t, high, err, with(slices.MaxFunc(grown, (*big.Rat).Cmp)), "high", m.Worth.Text(), written(m), ratio.Words(v))
		_, most, err := choice.Best(m)
		says(t, err, api.OK, "Best", written(m))
		for s := range most {
			if most[s].Cmp(low[s]) < 0 || most[s].Cmp(high[s]) > 0 {
				t.Errorf("%s %s: in %d from %s to %s, the best is %s", written(m), ratio.Words(v), s, low[s].Text(), high[s].Text(), most[s].Text())
			}
		}
	}
}
