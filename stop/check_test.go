package stop_test

import (
	"math"
	"math/rand"
	"strconv"
	"testing"

	"foresight/api"
	"foresight/ratio"
	"foresight/stop"
)

// wrong is a row that may not be, by its name.
type wrong struct {
	name string
	row  []ratio.Ratio
	want api.Errno
}

// wrongRows is ways in which a row may be wrong, where there are so many states.
func wrongRows(t *testing.T, states int) []wrong {
	t.Helper()
	least := one(t, "~")
	with := func(state int, a ratio.Ratio) []ratio.Ratio {
		row := sure(states, 0)
		row[state] = row[state].Add(a)
		return row
	}
	out := []wrong{
		{"none", nil, api.ErrForm},
		{"empty", []ratio.Ratio{}, api.ErrForm},
		{"longer", sure(states+1, 0), api.ErrForm},
		{"longer, below 0", like(states+1, ratio.Whole(-1)), api.ErrForm},
		{"longer, above 1", like(states+1, ratio.Whole(1)), api.ErrForm},
		{"far longer", make([]ratio.Ratio, api.MaxSize+2), api.ErrForm},
		{"all 0", make([]ratio.Ratio, states), api.ErrSum},
		{"all below 0", like(states, ratio.Whole(-1)), api.ErrArg},
		{"just below 1", with(0, ratio.Ratio{}.Sub(least)), api.ErrSum},
	}
	if states > 1 {
		less := with(0, ratio.Whole(1))
		less[1] = ratio.Whole(-1)
		out = append(out,
			wrong{"shorter", sure(states-1, 0), api.ErrForm},
			wrong{"1 together with one below 0", less, api.ErrArg})
	}
	for s := range states {
		at := " at " + strconv.Itoa(s)
		out = append(out,
			wrong{"below 0" + at, with(s, ratio.Whole(-2)), api.ErrArg},
			wrong{"just above 1" + at, with(s, least), api.ErrSum},
			wrong{"twice 1" + at, with(s, ratio.Whole(1)), api.ErrSum})
		if s > 0 {
			out = append(out, wrong{"just below 0" + at, with(s, ratio.Ratio{}.Sub(least)), api.ErrArg})
		}
	}
	return out
}

// 14.1: what may be: from 1 to MaxStates states, whatever one may take, and
// whatever it costs.
func TestCheck(t *testing.T) {
	die := rand.New(rand.NewSource(1))
	for states := 1; states <= api.MaxStates; states++ {
		says(t, stop.Check(ring(states)), api.OK, "ring", states)
		for range 20 {
			c := drawn(die, states)
			says(t, stop.Check(c), api.OK, written(c))
			for _, a := range []string{"0", "-1", "~", "1000000000000000000000000/7"} {
				c.Cost, c.Take[die.Intn(states)] = one(t, a), one(t, a)
				says(t, stop.Check(c), api.OK, written(c))
			}
		}
	}
	says(t, stop.Check(chain(t, "1/3 1/6 1/2; 0 1 0; 1/2 0 1/2", "-3 0 5/7", "-1/2")), api.OK)
}

// 14.1: how many rows there may be, whatever else is wrong.
func TestCheckHowManyStates(t *testing.T) {
	for _, takes := range []int{0, 1, api.MaxStates, api.MaxStates + 1} {
		take := make([]ratio.Ratio, takes)
		refused(t, stop.Chain{Take: take}, api.ErrLimit, "no row", takes)
		refused(t, stop.Chain{Next: [][]ratio.Ratio{}, Take: take}, api.ErrLimit, "an empty list", takes)
		refused(t, stop.Chain{Next: make([][]ratio.Ratio, api.MaxStates+1), Take: take}, api.ErrLimit, "one more, all empty", takes)
		for _, states := range []int{api.MaxStates + 1, 3 * api.MaxStates} {
			c := ring(states)
			refused(t, c, api.ErrLimit, states, "states")
			c.Take = take
			refused(t, c, api.ErrLimit, states, "states", takes)
		}
	}
}

// 14.1: Take is as long as Next, ahead of whatever is wrong with a row.
func TestCheckTake(t *testing.T) {
	for states := 1; states <= api.MaxStates; states++ {
		for _, takes := range []int{0, states - 1, states + 1, api.MaxSize} {
			c := ring(states)
			c.Take = make([]ratio.Ratio, takes)
			refused(t, c, api.ErrForm, states, "states", takes)
			for _, bad := range wrongRows(t, states) {
				c.Next[0] = bad.row
				refused(t, c, api.ErrForm, states, "states", takes, bad.name)
			}
		}
	}
}

// 14.1: each wrong row alone, and at each place among right ones.
func TestCheckWrongRow(t *testing.T) {
	for states := 1; states <= api.MaxStates; states++ {
		for _, bad := range wrongRows(t, states) {
			for s := range states {
				c := ring(states)
				c.Next[s] = bad.row
				refused(t, c, bad.want, states, "states", bad.name, "in", s)
			}
		}
	}
}

// 14.1: of two wrong rows the first one's error, wholly ahead of the next
// one's.
func TestCheckWrongTwo(t *testing.T) {
	for _, a := range wrongRows(t, 3) {
		for _, b := range wrongRows(t, 3) {
			c := ring(3)
			c.Next[0], c.Next[2] = a.row, b.row
			refused(t, c, a.want, a.name, "ahead of", b.name)
		}
	}
}

// 14.1: fewer times than none, and more than 20, ahead of how many flags there
// are.
func TestWrongTimes(t *testing.T) {
	for states := 1; states <= api.MaxStates; states++ {
		for _, times := range []int{-1, mostTimes + 1, -mostTimes, 100, math.MinInt, math.MaxInt} {
			refusedTimes(t, ring(states), times, api.ErrRange, states, "states")
		}
	}
}

// 14.1: Follow wants as many flags as there are states, with 0 to go, too.
func TestWrongFlags(t *testing.T) {
	for states := 1; states <= api.MaxStates; states++ {
		for _, n := range []int{0, states - 1, states + 1, api.MaxSize} {
			for _, times := range []int{0, 1, mostTimes} {
				for _, yes := range []bool{false, true} {
					v, err := stop.Follow(ring(states), times, like(n, yes))
					says(t, err, api.ErrForm, "Follow", states, n, times)
					if len(v) != 0 {
						t.Errorf("%d states, %d flags: %s beside an error", states, n, ratio.Words(v))
					}
				}
			}
		}
		v, err := stop.Follow(ring(states), 0, nil)
		says(t, err, api.ErrForm, "Follow without flags", states)
		if len(v) != 0 {
			t.Errorf("%d states, no flags: %s beside an error", states, ratio.Words(v))
		}
	}
}
