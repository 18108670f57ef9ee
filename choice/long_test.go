package choice_test

import (
	"math"
	"math/big"
	"math/rand"
	"slices"
	"testing"

	"foresight/api"
	"foresight/choice"
	"foresight/ratio"
)

// mostTimes is the greatest number of times that 13.3 names.
const mostTimes = 20

// 13.3: Last by hand; with no times to go it is what is so in the end.
func TestLast(t *testing.T) {
	for _, c := range []struct {
		worth, states string
		times         int
		end, want     string
	}{
		{"1/2", "5: 1", 0, "7", "7"},
		{"1/2", "5: 1", 1, "7", "17/2"},
		{"0", "5: 1", mostTimes, "7", "5"},
		{"1/2", "1: 1", mostTimes, "0", "1048575/524288"},
		{"1/2", "1: 1", mostTimes, "2", "2"},
		{"1/2", stayOrGo, 0, "-1/3 4", "-1/3 4"},
		{"1/2", stayOrGo, 1, "0 0", "1 3"},
		{"1/2", stayOrGo, 2, "0 0", "3/2 9/2"},
		{"1/2", stayOrGo, 3, "0 0", "9/4 21/4"},
		{"1/2", stayOrGo, 3, "0 4", "11/4 23/4"},
		{"9/10", toymaker, 1, "0 0", "6 -3"},
	} {
		got, err := choice.Last(model(t, c.worth, c.states), c.times, list(t, c.end))
		are(t, got, err, c.want, c.worth, c.states, c.times, c.end)
	}
}

// 13.3: how many times, whatever end is.
func TestLastTimes(t *testing.T) {
	for states := 1; states <= api.MaxStates; states++ {
		m := ring(t, states, 2)
		for _, times := range []int{-1, mostTimes + 1, 1000, math.MinInt, math.MaxInt} {
			for _, n := range []int{states, 0, states + 1} {
				got, err := choice.Last(m, times, make([]ratio.Ratio, n))
				nothing(t, got, nil, err, api.ErrRange, states, times, n)
			}
		}
		for times := range mostTimes + 1 {
			// All that comes is 1 a time: 2 from the end on, if that is worth 2.
			end := like(states, ratio.Whole(2))
			got, err := choice.Last(m, times, end)
			are(t, got, err, ratio.Words(end), states, times)
		}
	}
}

// 13.3: Last is Step, so many times, by the library; and what it is from Best
// becomes less with each time.
func TestLastDrawn(t *testing.T) {
	die := rand.New(rand.NewSource(6))
	for i := range 40 {
		m := drawn(die, 1+i%api.MaxStates, 3)
		end := some(die, len(m.States))
		_, most, err := choice.Best(m)
		says(t, err, api.OK, "Best", written(m))
		v, far := allKnown(t, end), distance(t, end, most)
		for times := range mostTimes + 1 {
			got, err := choice.Last(m, times, end)
			are(t, got, err, words(v), m.Worth.Text(), written(m), times, ratio.Words(end))
			if distance(t, got, most).Cmp(far) > 0 {
				t.Errorf("%s %s: too far from the best with %d times to go", m.Worth.Text(), written(m), times)
			}
			v, _ = stepped(t, m, v)
			far.Mul(far, known(t, m.Worth))
		}
	}
}

// distance is how far two lists are from each other, where they are the farthest.
func distance(t *testing.T, a, b []ratio.Ratio) *big.Rat {
	t.Helper()
	out := new(big.Rat)
	for i := range a {
		d := known(t, a[i].Sub(b[i]))
		if d.Abs(d).Cmp(out) > 0 {
			out = d
		}
	}
	return out
}

// 13.3: Often by hand: states that one leaves for ever, and ways round, too.
func TestOften(t *testing.T) {
	for _, c := range []struct{ states, acts, want string }{
		{"5: 1", "0", "1"},
		{stayOrGo, "1 0", "0 1"},
		{"1: 1 0; 3: 1 0", "0 0", "1 0"},
		{"0: 0 1; 0: 1 0", "0 0", "1/2 1/2"},
		{"0: 1/2 1/2; 0: 1 0", "0 0", "2/3 1/3"},
		{toymaker, "0 0", "4/9 5/9"},
		{toymaker, "1 0", "2/3 1/3"},
		{toymaker, "0 1", "7/12 5/12"},
		{toymaker, "1 1", "7/9 2/9"},
		{"0: 0 1 0; 0: 0 0 1; 0: 1 0 0", "0 0 0", "1/3 1/3 1/3"},
		{"0: 0 1 0; 0: 1/2 0 1/2; 0: 0 1 0", "0 0 0", "1/4 1/2 1/4"},
		{"0: 0 0 1; 0: 1/3 1/3 1/3; 0: 1 0 0", "0 0 0", "1/2 0 1/2"},
		{"0: 1/3 1/3 1/3; 0: 1/3 1/3 1/3; 0: 0 0 1", "0 0 0", "0 0 1"},
	} {
		for _, worth := range []string{"0", "1/2", "99/100"} {
			got, err := choice.Often(model(t, worth, c.states), numbers(t, c.acts))
			are(t, got, err, c.want, worth, c.states, c.acts)
		}
	}
}

// 13.3: several rows fit: it hangs on where one begins.
func TestOftenNone(t *testing.T) {
	for _, c := range []struct{ states, acts string }{
		{stayOrGo, "0 0"},
		{"0: 1 0 0; 0: 1/3 1/3 1/3; 0: 0 0 1", "0 0 0"},
		{"0: 0 1 0; 0: 1 0 0; 0: 0 0 1", "0 0 0"},
		{"0: 1 0 0; 0: 0 0 1; 0: 0 1 0", "0 0 0"},
		{"0: 0 0 1; 0: 0 1 0; 0: 1 0 0", "0 0 0"},
		{"0: 0 1 0 0; 0: 1 0 0 0; 0: 0 0 0 1; 0: 0 0 1 0", "0 0 0 0"},
		{"0: 0 1/2 1/2 0; 0: 0 1 0 0; 0: 0 0 1 0; 0: 1 0 0 0", "0 0 0 0"},
	} {
		got, err := choice.Often(model(t, "1/2", c.states), numbers(t, c.acts))
		nothing(t, got, nil, err, api.ErrNone, c.states, c.acts)
	}
	for states := 2; states <= api.MaxStates; states++ {
		m := choice.Model{}
		for s := range states {
			m.States = append(m.States, []choice.Act{{Next: sure(states, s)}, {Next: sure(states, 0)}})
		}
		got, err := choice.Often(m, make([]int, states))
		nothing(t, got, nil, err, api.ErrNone, "each stays", states)
		got, err = choice.Often(m, like(states, 1))
		are(t, got, err, ratio.Words(sure(states, 0)), "all go to 0", states)
	}
}

// classes is how many sets of states there are that one never leaves, and within
// which one comes from each to each.
func classes(m choice.Model, acts []int) int {
	n := len(acts)
	leads := make([][]bool, n)
	for s := range leads {
		leads[s] = make([]bool, n)
		for k, share := range m.States[s][acts[s]].Next {
			leads[s][k] = k == s || share.Sign() > 0
		}
	}
	for by := range n {
		for from := range n {
			for to := range n {
				leads[from][to] = leads[from][to] || leads[from][by] && leads[by][to]
			}
		}
	}
	out := 0
	for s := range n {
		first, back := true, true
		for k := range n {
			back = back && (!leads[s][k] || leads[k][s])
			first = first && (k >= s || !leads[s][k] || !leads[k][s])
		}
		if first && back {
			out++
		}
	}
	return out
}

// 13.3: Often of what looks drawn: a time later it is the same, 1 together and
// nowhere below 0; and there is one just where one set of states draws all in.
func TestOftenDrawn(t *testing.T) {
	die := rand.New(rand.NewSource(7))
	none := 0
	for i := range 600 {
		m := drawn(die, 1+i%api.MaxStates, 2)
		for s := range m.States {
			if die.Intn(5) == 0 {
				m.States[s][0].Next = sure(len(m.States), s)
			}
		}
		acts := picked(die, m)
		got, err := choice.Often(m, acts)
		if classes(m, acts) > 1 {
			none++
			nothing(t, got, nil, err, api.ErrNone, written(m), acts)
			continue
		}
		if len(got) != len(acts) {
			t.Fatalf("%s %v: %d numbers, error %v", written(m), acts, len(got), err)
		}
		later := make([]ratio.Ratio, len(acts))
		for s, n := range acts {
			if got[s].Sign() < 0 {
				t.Errorf("%s %v: %s is below 0", written(m), acts, got[s].Text())
			}
			for k, share := range m.States[s][n].Next {
				later[k] = later[k].Add(got[s].Mul(share))
			}
		}
		are(t, got, err, ratio.Words(later), written(m), acts)
		are(t, []ratio.Ratio{ratio.Sum(got...)}, nil, "1", "together", written(m), acts)
	}
	if none < 60 || none > 540 {
		t.Errorf("%d of the drawn ones have none", none)
	}
}

// P4: what is handed in stays as it is, also behind a list's length; and what
// came out is the caller's.
func TestArgumentsStay(t *testing.T) {
	room := func(l []ratio.Ratio) []ratio.Ratio { return append(slices.Clone(l), ratio.Whole(77))[:len(l)] }
	m := model(t, "9/10", toymaker)
	for s := range m.States {
		for n := range m.States[s] {
			m.States[s][n].Next = room(m.States[s][n].Next)
		}
		m.States[s] = append(m.States[s], choice.Act{Gain: ratio.Whole(77)})[:len(m.States[s])]
	}
	text, v, acts := written(m), room(list(t, "3 4")), []int{1, 0, 77}[:2]
	fresh := func(l []ratio.Ratio) {
		for i := range l[:cap(l)] {
			l[:cap(l)][i] = ratio.Whole(-55)
		}
	}
	freshActs := func(l []int) {
		for i := range l[:cap(l)] {
			l[:cap(l)][i] = -55
		}
	}
	for range 2 {
		value, err := choice.Value(m, acts)
		are(t, value, err, "325/16 75/8", "Value")
		step, stepActs, err := choice.Step(m, v)
		are(t, step, err, "183/20 6/25", "Step")
		bestActs, best, err := choice.Best(m)
		are(t, best, err, "2020/91 160/13", "Best")
		low, high, err := choice.Bounds(m, v)
		are(t, low, err, "-2469/100 -168/5", "low")
		last, err := choice.Last(m, 0, v)
		are(t, last, err, "3 4", "Last of none")
		later, err := choice.Last(m, 1, v)
		are(t, later, err, "183/20 6/25", "Last of one")
		often, err := choice.Often(m, acts)
		are(t, often, err, "2/3 1/3", "Often")
		if !slices.Equal(stepActs, []int{0, 0}) || !slices.Equal(bestActs, []int{1, 1}) {
			t.Errorf("acts %v and %v", stepActs, bestActs)
		}
		// If two lists shared memory, what is written into the one shows in the other.
		fresh(low)
		are(t, high, nil, "129/2 5559/100", "high")
		for _, l := range [][]ratio.Ratio{value, step, best, high, last, later, often} {
			fresh(l)
		}
		freshActs(stepActs)
		freshActs(bestActs)
		if written(m) != text || ratio.Words(v[:3]) != "3 4 77" || !slices.Equal(acts[:3], []int{1, 0, 77}) {
			t.Errorf("%s, %s, %v", written(m), ratio.Words(v[:3]), acts[:3])
		}
		for s := range m.States {
			behind := m.States[s][:3][2]
			if behind.Gain.Text() != "77" || behind.Next != nil {
				t.Errorf("behind the acts of %d: %v", s, behind)
			}
			for _, a := range m.States[s] {
				if a.Next[:3][2].Text() != "77" {
					t.Errorf("behind a Next of %d: %s", s, a.Next[:3][2].Text())
				}
			}
		}
	}
}
