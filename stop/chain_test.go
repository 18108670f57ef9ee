package stop_test

import (
	"math/big"
	"math/rand"
	"slices"
	"testing"

	"foresight/api"
	"foresight/ratio"
	"foresight/stop"
)

// enveloped fails unless Envelope tells these rows.
func enveloped(t *testing.T, c stop.Chain, times int, want string) {
	t.Helper()
	rows, err := stop.Envelope(c, times)
	if text := joined(rows); err != nil || text != want {
		t.Errorf("%s, %d times: %.300q, error %v, want %.300q", written(c), times, text, err, want)
	}
}

// taken fails unless Takes tells these states.
func taken(t *testing.T, c stop.Chain, times int, want string) {
	t.Helper()
	takes, err := stop.Takes(c, times)
	if text := flagged(takes); err != nil || text != want {
		t.Errorf("%s, %d times: %q, error %v, want %q", written(c), times, text, err, want)
	}
}

// 14.1: Envelope and Takes by hand; where to take is like to go on, one takes.
func TestEnvelope(t *testing.T) {
	for _, c := range []struct {
		next, take, cost string
		times            int
		rows, takes      string
	}{
		{"1", "5", "0", 0, "5", "y"},
		{"1", "5", "0", 3, "5; 5; 5; 5", "y"},
		{"1", "5", "~", 2, "5; 5; 5", "y"},
		{"1", "5", "-1/2", 2, "5; 11/2; 6", "n"},
		{"1", "-5", "1", 2, "-5; -5; -5", "y"},
		{"0 1; 1 0", "0 10", "1", 0, "0 10", "yy"},
		{"0 1; 1 0", "0 10", "1", 1, "0 10; 9 10", "ny"},
		{"0 1; 1 0", "0 10", "1", 2, "0 10; 9 10; 9 10", "ny"},
		{"0 1; 1 0", "0 10", "10", 2, "0 10; 0 10; 0 10", "yy"},
		{"0 1; 1 0", "0 10", "9", 1, "0 10; 1 10", "ny"},
		{"0 1; 1 0", "-3 -1", "0", 2, "-3 -1; -1 -1; -1 -1", "ny"},
		{"1/2 1/2; 1/2 1/2", "0 4", "0", 3, "0 4; 2 4; 3 4; 7/2 4", "ny"},
		{"1/2 1/2; 1/2 1/2", "0 4", "1", 3, "0 4; 1 4; 3/2 4; 7/4 4", "ny"},
		{"1/2 1/2; 1/2 1/2", "0 4", "2", 2, "0 4; 0 4; 0 4", "yy"},
		{"1/2 1/2; 1/2 1/2", "0 4", "3", 2, "0 4; 0 4; 0 4", "yy"},
		// With one time to go one takes in 0, with two one doesn't: what is good comes later.
		{"0 1 0; 0 0 1; 0 0 1", "2 0 9", "1", 1, "2 0 9; 2 8 9", "yny"},
		{"0 1 0; 0 0 1; 0 0 1", "2 0 9", "1", 2, "2 0 9; 2 8 9; 7 8 9", "nny"},
		{"1/3 2/3; 1/4 3/4", "1 2", "1/6", 2, "1 2; 3/2 2; 5/3 2", "ny"},
	} {
		x := chain(t, c.next, c.take, c.cost)
		enveloped(t, x, c.times, c.rows)
		taken(t, x, c.times, c.takes)
	}
}

// A die: one may take what is shown, or throw again; as is known, with two
// throws to go one takes from 5 on, with one from 4 on.
func TestEnvelopeOfADie(t *testing.T) {
	var c stop.Chain
	for face := range 6 {
		c.Next = append(c.Next, like(6, part(1, 6)))
		c.Take = append(c.Take, ratio.Whole(face+1))
	}
	enveloped(t, c, 2, "1 2 3 4 5 6; 7/2 7/2 7/2 4 5 6; 17/4 17/4 17/4 17/4 5 6")
	taken(t, c, 0, "yyyyyy")
	taken(t, c, 1, "nnnyyy")
	taken(t, c, 2, "nnnnyy")
	taken(t, c, 5, "nnnnny")
}

// 14.1: to take and to go on differ by hardly anything, or not at all.
func TestTakesNearlyAlike(t *testing.T) {
	least := one(t, "~")
	for state := range api.MaxStates {
		for times := 1; times <= mostTimes; times++ {
			c := ring(api.MaxStates)
			c.Cost = ratio.Ratio{}
			c.Take = like(api.MaxStates, part(1, 3))
			taken(t, c, times, "yyyyyyyy")
			before := (state + api.MaxStates - 1) % api.MaxStates
			c.Take[state] = part(1, 3).Sub(least)
			want := like(api.MaxStates, true)
			want[state] = false
			taken(t, c, times, flagged(want))
			c.Take[state], c.Cost = part(1, 3).Add(least), least
			taken(t, c, times, "yyyyyyyy")
			c.Take[state] = part(1, 3).Add(least).Add(least)
			want = like(api.MaxStates, true)
			want[before] = false
			taken(t, c, times, flagged(want))
		}
	}
}

// 14.1: Envelope and Takes of what looks drawn, time by time, against the
// library; a row for each number of times, whatever the last one is.
func TestEnvelopeDrawn(t *testing.T) {
	die := rand.New(rand.NewSource(2))
	var alike, less int
	for i := range 160 {
		c := drawn(die, 1+i%api.MaxStates)
		times := []int{0, 1, 2, 3, 5, 7}[die.Intn(6)]
		if i%20 == 0 {
			times = mostTimes
		}
		take := allKnown(t, c.Take)
		v, want := take, words(take)
		taken(t, c, 0, flagged(like(len(take), true)))
		for time := range times {
			ahead := on(t, c, v)
			takes := make([]bool, len(take))
			for s := range ahead {
				switch take[s].Cmp(ahead[s]) {
				case 0:
					alike++
					takes[s] = true
				case 1:
					takes[s] = true
				default:
					less++
				}
			}
			taken(t, c, time+1, flagged(takes))
			v = most([][]*big.Rat{take, ahead})
			want += "; " + words(v)
		}
		enveloped(t, c, times, want)
	}
	if alike < 50 || less < 200 {
		t.Errorf("of the drawn ones %d are alike, in %d one goes on: too few", alike, less)
	}
}

// 14.1 (Snell): no plan, that may hang on how many times there are to go, is
// worth more than Envelope in any state, and some plan is worth as much; to take
// where Takes tells so is one.
func TestEnvelopeIsTheBestOfAllPlans(t *testing.T) {
	die := rand.New(rand.NewSource(3))
	for i := range 40 {
		states, times := 1+i%3, 3
		c := drawn(die, states)
		var worths [][]*big.Rat
		for _, a := range sets(states) {
			for _, b := range sets(states) {
				for _, d := range sets(states) {
					worths = append(worths, followed(t, c, a, b, d))
				}
			}
		}
		rows, err := stop.Envelope(c, times)
		says(t, err, api.OK, written(c))
		are(t, rows[times], nil, words(most(worths)), written(c))
		var plans [][]bool
		for time := range times {
			takes, err := stop.Takes(c, time+1)
			says(t, err, api.OK, written(c))
			plans = append(plans, takes)
		}
		are(t, rows[times], nil, words(followed(t, c, plans...)), "by Takes", written(c))
	}
}

// 14.1: Follow by hand.
func TestFollow(t *testing.T) {
	for _, c := range []struct {
		next, take, cost string
		times            int
		takes, want      string
	}{
		{"1", "5", "2", 0, "n", "5"}, {"1", "5", "2", 0, "y", "5"},
		{"1", "5", "2", 1, "n", "3"}, {"1", "5", "2", 1, "y", "5"},
		{"1", "5", "2", 20, "n", "-35"}, {"1", "5", "2", 20, "y", "5"},
		{"1", "5", "-2", 20, "n", "45"},
		{"0 1; 1 0", "0 10", "1", 0, "nn", "0 10"},
		{"0 1; 1 0", "0 10", "1", 1, "nn", "9 -1"},
		{"0 1; 1 0", "0 10", "1", 2, "nn", "-2 8"},
		{"0 1; 1 0", "0 10", "1", 2, "ny", "9 10"},
		{"0 1; 1 0", "0 10", "1", 2, "yn", "0 -1"},
		{"0 1; 1 0", "0 10", "1", 2, "yy", "0 10"},
		{"1/2 1/2; 1/2 1/2", "0 4", "0", 3, "ny", "7/2 4"},
		{"1/2 1/2; 1/2 1/2", "0 4", "3", 2, "ny", "-3/2 4"},
		{"0 1 0; 0 0 1; 1 0 0", "1 2 4", "1/2", 4, "nnn", "0 2 -1"},
		{"0 1 0; 0 0 1; 1 0 0", "1 2 4", "1/2", 4, "nny", "3 7/2 4"},
	} {
		got, err := stop.Follow(chain(t, c.next, c.take, c.cost), c.times, flags(c.takes))
		are(t, got, err, c.want, c.next, c.take, c.cost, c.times, c.takes)
	}
}

// 14.1: Follow by all sets of states, against the library; it is never above
// Envelope.
func TestFollowDrawn(t *testing.T) {
	die := rand.New(rand.NewSource(4))
	for i := range 60 {
		states, times := 1+i%4, die.Intn(6)
		c := drawn(die, states)
		rows, err := stop.Envelope(c, times)
		says(t, err, api.OK, written(c))
		for _, takes := range sets(states) {
			got, err := stop.Follow(c, times, takes)
			are(t, got, err, words(followed(t, c, like(times, takes)...)), written(c), times, flagged(takes))
			for s := range got {
				if got[s].Cmp(rows[times][s]) > 0 {
					t.Errorf("%s, %d times, %s: %s in %d is above the envelope", written(c), times, flagged(takes), got[s].Text(), s)
				}
			}
		}
	}
}

// 14.1: as many states and times as there may be, and fractions of many digits.
func TestFollowOfMany(t *testing.T) {
	die := rand.New(rand.NewSource(5))
	for range 6 {
		c := drawn(die, api.MaxStates)
		c.Cost, c.Take[3] = one(t, "~"), c.Take[3].Sub(one(t, "~"))
		takes := sets(api.MaxStates)[die.Intn(1<<api.MaxStates)]
		got, err := stop.Follow(c, mostTimes, takes)
		are(t, got, err, words(followed(t, c, like(mostTimes, takes)...)), written(c), flagged(takes))
	}
}

// spoil writes into a list, up to the end of its memory.
func spoil[T any](l []T, a T) {
	for i := range l[:cap(l)] {
		l[:cap(l)][i] = a
	}
}

// P4: what is handed in stays as it is, also behind a list's length; and what
// came out is the caller's, each row of it for itself.
func TestArgumentsStay(t *testing.T) {
	room := func(l []ratio.Ratio) []ratio.Ratio { return append(slices.Clone(l), ratio.Whole(77))[:len(l)] }
	c := chain(t, "1/2 1/2; 1/2 1/2", "0 4", "0")
	c.Next[0], c.Next[1], c.Take = room(c.Next[0]), room(c.Next[1]), room(c.Take)
	c.Next = append(c.Next, list(t, "77"))[:2]
	takes := []bool{false, true, true}[:2]
	text := written(c)
	for range 2 {
		for times, want := range []string{"0 4", "2 4", "3 4", "7/2 4"} {
			got, err := stop.Follow(c, times, takes)
			are(t, got, err, want, "Follow", times)
			spoil(got, ratio.Whole(-55))
			which, err := stop.Takes(c, times)
			says(t, err, api.OK, "Takes", times)
			spoil(which, false)
			rows, err := stop.Envelope(c, times)
			says(t, err, api.OK, "Envelope", times)
			// If two rows shared memory, what is written into the one shows in the other.
			for k := range rows {
				are(t, rows[k], nil, []string{"0 4", "2 4", "3 4", "7/2 4"}[k], "Envelope", times, k)
				spoil(rows[k], ratio.Whole(-55))
			}
		}
		taken(t, c, 0, "yy")
		if written(c) != text || !slices.Equal(takes[:3], []bool{false, true, true}) {
			t.Errorf("%s, %v", written(c), takes[:3])
		}
		for _, l := range [][]ratio.Ratio{c.Next[0], c.Next[1], c.Take} {
			if l[:3][2].Text() != "77" {
				t.Errorf("behind a list: %s", l[:3][2].Text())
			}
		}
		if ratio.Words(c.Next[:3][2]) != "77" {
			t.Errorf("behind the rows: %s", ratio.Words(c.Next[:3][2]))
		}
	}
}
