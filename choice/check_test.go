package choice_test

import (
	"strconv"
	"testing"

	"foresight/api"
	"foresight/choice"
	"foresight/ratio"
)

// wrong is something that may not be, by its name.
type wrong[T any] struct {
	name string
	a    T
	want api.Errno
}

// wrongNexts is all ways in which the Next of an act may be wrong, where there
// are so many states.
func wrongNexts(t *testing.T, states int) []wrong[[]ratio.Ratio] {
	t.Helper()
	least := one(t, "~")
	with := func(state int, a ratio.Ratio) []ratio.Ratio {
		row := sure(states, 0)
		row[state] = row[state].Add(a)
		return row
	}
	out := []wrong[[]ratio.Ratio]{
		{"none", nil, api.ErrForm},
		{"empty", []ratio.Ratio{}, api.ErrForm},
		{"longer", sure(states+1, 0), api.ErrForm},
		{"longer, below 0", like(states+1, ratio.Whole(-1)), api.ErrForm},
		{"longer, above 1", like(states+1, ratio.Whole(1)), api.ErrForm},
		{"far longer", make([]ratio.Ratio, api.MaxSize+2), api.ErrForm},
		{"all 0", make([]ratio.Ratio, states), api.ErrSum},
		{"all below 0", like(states, ratio.Whole(-1)), api.ErrArg},
	}
	if states > 1 {
		less := with(0, ratio.Whole(1))
		less[1] = ratio.Whole(-1)
		out = append(out,
			wrong[[]ratio.Ratio]{"shorter", sure(states-1, 0), api.ErrForm},
			wrong[[]ratio.Ratio]{"1 together with one below 0", less, api.ErrArg})
	}
	for s := range states {
		at := " at " + strconv.Itoa(s)
		out = append(out,
			wrong[[]ratio.Ratio]{"below 0" + at, with(s, ratio.Whole(-2)), api.ErrArg},
			wrong[[]ratio.Ratio]{"just above 1" + at, with(s, least), api.ErrSum},
			wrong[[]ratio.Ratio]{"twice 1" + at, with(s, ratio.Whole(1)), api.ErrSum})
		if s > 0 {
			out = append(out, wrong[[]ratio.Ratio]{"just below 0" + at, with(s, ratio.Ratio{}.Sub(least)), api.ErrArg})
		}
	}
	return append(out, wrong[[]ratio.Ratio]{"just below 1", with(0, ratio.Ratio{}.Sub(least)), api.ErrSum})
}

// wrongStates is ways in which a state may be wrong, where there are so many.
func wrongStates(t *testing.T, states int) []wrong[[]choice.Act] {
	t.Helper()
	right := choice.Act{Next: sure(states, 0)}
	out := []wrong[[]choice.Act]{
		{"no acts", nil, api.ErrLimit},
		{"an empty list of acts", []choice.Act{}, api.ErrLimit},
		{"an act more", like(api.MaxStates+1, right), api.ErrLimit},
		{"an act more, without Next", make([]choice.Act, api.MaxStates+1), api.ErrLimit},
		{"many acts more", like(5*api.MaxStates, right), api.ErrLimit},
	}
	for _, w := range wrongNexts(t, states) {
		bad := choice.Act{Gain: ratio.Whole(3), Next: w.a}
		out = append(out,
			wrong[[]choice.Act]{w.name, []choice.Act{bad}, w.want},
			wrong[[]choice.Act]{w.name + ", ahead of a right act", []choice.Act{bad, right}, w.want},
			wrong[[]choice.Act]{w.name + ", behind all others", append(like(api.MaxStates-1, right), bad), w.want})
	}
	return out
}

// 13.1: what may be: from 1 to MaxStates states and acts, Worth from 0 to just
// below 1.
func TestCheck(t *testing.T) {
	for states := 1; states <= api.MaxStates; states++ {
		for acts := 1; acts <= api.MaxStates; acts++ {
			m := ring(t, states, acts)
			for _, w := range []ratio.Ratio{{}, one(t, "~"), one(t, "1/2"), ratio.Whole(1).Sub(one(t, "~"))} {
				m.Worth = w
				says(t, choice.Check(m), api.OK, states, acts, w.Text())
			}
		}
	}
	says(t, choice.Check(model(t, "7/8", "-3: 1/3 1/6 1/2; 5/7: 0 1 0, 0: 1/2 0 1/2; 1: 0 0 1")), api.OK)
}

// 13.1: how many states there may be, whatever else is wrong.
func TestCheckHowManyStates(t *testing.T) {
	for _, w := range []ratio.Ratio{{}, one(t, "1/2"), ratio.Whole(-1), ratio.Whole(1)} {
		refused(t, choice.Model{Worth: w}, api.ErrLimit, "no state")
		refused(t, choice.Model{States: [][]choice.Act{}, Worth: w}, api.ErrLimit, "an empty list")
		refused(t, choice.Model{States: make([][]choice.Act, api.MaxStates+1), Worth: w}, api.ErrLimit, "one more, without acts")
		for _, states := range []int{api.MaxStates + 1, 3 * api.MaxStates} {
			m := ring(t, states, 2)
			m.Worth = w
			refused(t, m, api.ErrLimit, states, "states")
		}
	}
}

// 13.1: Worth, ahead of whatever is wrong with a state.
func TestCheckWorth(t *testing.T) {
	least := one(t, "~")
	for _, w := range []ratio.Ratio{
		ratio.Whole(-1), ratio.Ratio{}.Sub(least), ratio.Whole(1), ratio.Whole(1).Add(least), ratio.Whole(2), one(t, "-1/2"),
	} {
		for states := 1; states <= api.MaxStates; states++ {
			m := ring(t, states, 2)
			m.Worth = w
			refused(t, m, api.ErrArg, states, w.Text())
		}
		for _, bad := range wrongStates(t, 2) {
			m := ring(t, 2, 2)
			m.Worth = w
			m.States[0] = bad.a
			refused(t, m, api.ErrArg, w.Text(), "ahead of", bad.name)
		}
	}
}

// 13.1: each wrong state alone, and at each place among right ones.
func TestCheckWrongState(t *testing.T) {
	for _, states := range []int{1, 2, 3, api.MaxStates} {
		for _, bad := range wrongStates(t, states) {
			for s := range states {
				m := ring(t, states, 2)
				m.States[s] = bad.a
				refused(t, m, bad.want, states, "states", bad.name, "in", s)
			}
		}
	}
}

// 13.1: of two wrong states the first one's error, wholly ahead of the next
// one's; and of two wrong acts, too.
func TestCheckWrongTwo(t *testing.T) {
	for _, a := range wrongStates(t, 3) {
		for _, b := range wrongStates(t, 3) {
			m := ring(t, 3, 1)
			m.States[0], m.States[2] = a.a, b.a
			says(t, choice.Check(m), a.want, a.name, "ahead of", b.name)
		}
	}
	for _, a := range wrongNexts(t, 3) {
		for _, b := range wrongNexts(t, 3) {
			m := ring(t, 3, 3)
			m.States[1][0].Next, m.States[1][2].Next = a.a, b.a
			says(t, choice.Check(m), a.want, a.name, "ahead of", b.name)
		}
	}
}
