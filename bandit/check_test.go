package bandit_test

import (
	"math"
	"math/rand"
	"strconv"
	"testing"

	"foresight/api"
	"foresight/bandit"
	"foresight/ratio"
)

// wrong is a row that may not be, by its name.
type wrong struct {
	name string
	row  []ratio.Ratio
	want api.Errno
}

// wrongRows is ways in which a row may be wrong, where there are so many states.
func wrongRows(t *testing.T, states int) []wrong {
	t.Helper()
	least := one(t, "~")
	with := func(state int, a ratio.Ratio) []ratio.Ratio {
		row := sure(states, 0)
		row[state] = row[state].Add(a)
		return row
	}
	out := []wrong{
		{"none", nil, api.ErrForm},
		{"empty", []ratio.Ratio{}, api.ErrForm},
		{"longer", sure(states+1, 0), api.ErrForm},
		{"longer, below 0", like(states+1, ratio.Whole(-1)), api.ErrForm},
		{"far longer", make([]ratio.Ratio, api.MaxSize+2), api.ErrForm},
		{"all 0", make([]ratio.Ratio, states), api.ErrSum},
		{"all below 0", like(states, ratio.Whole(-1)), api.ErrArg},
		{"just below 1", with(0, ratio.Ratio{}.Sub(least)), api.ErrSum},
	}
	if states > 1 {
		less := with(0, ratio.Whole(1))
		less[1] = ratio.Whole(-1)
		out = append(out,
			wrong{"shorter", sure(states-1, 0), api.ErrForm},
			wrong{"1 together with one below 0", less, api.ErrArg})
	}
	for s := range states {
		at := " at " + strconv.Itoa(s)
		out = append(out,
			wrong{"below 0" + at, with(s, ratio.Whole(-2)), api.ErrArg},
			wrong{"just above 1" + at, with(s, least), api.ErrSum})
		if s > 0 {
			out = append(out, wrong{"just below 0" + at, with(s, ratio.Ratio{}.Sub(least)), api.ErrArg})
		}
	}
	return out
}

// worths is what may be, and what may not.
func worths(t *testing.T) (right, not []ratio.Ratio) {
	t.Helper()
	least := one(t, "~")
	right = []ratio.Ratio{{}, least, part(1, 2), ratio.Whole(1).Sub(least)}
	not = []ratio.Ratio{ratio.Ratio{}.Sub(least), ratio.Whole(-1), ratio.Whole(1), ratio.Whole(1).Add(least), ratio.Whole(2)}
	return right, not
}

// refusedOne fails unless all that asks one arm says one thing of it, whatever
// is wrong beside it that is told later.
func refusedOne(t *testing.T, a bandit.Arm, worth ratio.Ratio, want api.Errno, what ...any) {
	t.Helper()
	l, err := bandit.Index(a, worth)
	if nothing(t, err, want, nil, "Index", what); len(l) != 0 {
		t.Errorf("Index %v: %s beside an error", what, ratio.Words(l))
	}
	for _, state := range []int{0, -1, mostStates} {
		x, err := bandit.Again(a, worth, state)
		nothing(t, err, want, []ratio.Ratio{x}, "Again", state, what)
		for _, n := range []int{len(a.Pay), 0, len(a.Pay) + 1} {
			x, err := bandit.While(a, worth, state, make([]bool, n))
			nothing(t, err, want, []ratio.Ratio{x}, "While", state, n, what)
		}
	}
}

// refusedTwo fails unless all that asks two arms says one thing of them,
// whatever is wrong beside it that is told later.
func refusedTwo(t *testing.T, a, b bandit.Arm, worth ratio.Ratio, want api.Errno, what ...any) {
	t.Helper()
	for _, at := range [][3]int{{0, 0, 1}, {-1, 0, 1}, {0, mostStates, 1}, {0, 0, -1}, {0, 0, mostTimes + 1}} {
		x, y, err := bandit.Ever(a, b, worth, at[0], at[1])
		nothing(t, err, want, []ratio.Ratio{x, y}, "Ever", at, what)
		x, y, err = bandit.Play(a, b, worth, at[0], at[1], at[2])
		nothing(t, err, want, []ratio.Ratio{x, y}, "Play", at, what)
	}
}

// refused fails unless all say one thing of a wrong arm: alone, whatever worth
// is; as the first of two, whatever the other one is; as the second one.
func refused(t *testing.T, a bandit.Arm, want api.Errno, what ...any) {
	t.Helper()
	says(t, bandit.Check(a), want, "Check", what)
	for _, worth := range []ratio.Ratio{part(1, 2), {}, ratio.Whole(1), ratio.Whole(-1)} {
		refusedOne(t, a, worth, want, worth.Text(), what)
		refusedTwo(t, a, ring(2), worth, want, worth.Text(), "ahead of a right one", what)
		refusedTwo(t, a, bandit.Arm{}, worth, want, worth.Text(), "ahead of an empty one", what)
	}
	refusedTwo(t, ring(2), a, part(1, 2), want, "behind a right one", what)
}

// 15.1: what may be: 1 to 5 states, whatever they pay.
func TestCheck(t *testing.T) {
	die := rand.New(rand.NewSource(1))
	for states := 1; states <= mostStates; states++ {
		says(t, bandit.Check(ring(states)), api.OK, "ring", states)
		for range 20 {
			a := drawn(die, states)
			says(t, bandit.Check(a), api.OK, written(a))
			for _, pay := range []string{"0", "-1", "~", "1000000000000000000000000/7"} {
				a.Pay[die.Intn(states)] = one(t, pay)
				says(t, bandit.Check(a), api.OK, written(a))
			}
			says(t, bandit.Check(long(t, a)), api.OK, written(a))
		}
	}
}

// 15.1: how many states there may be, whatever else is wrong.
func TestCheckHowManyStates(t *testing.T) {
	for _, rows := range []int{0, 1, mostStates, mostStates + 1} {
		next := make([][]ratio.Ratio, rows)
		refused(t, bandit.Arm{Next: next}, api.ErrLimit, "no pay", rows)
		refused(t, bandit.Arm{Pay: []ratio.Ratio{}, Next: next}, api.ErrLimit, "an empty list", rows)
		refused(t, bandit.Arm{Pay: make([]ratio.Ratio, mostStates+1), Next: next}, api.ErrLimit, "one more", rows)
	}
	refused(t, bandit.Arm{}, api.ErrLimit, "the zero value")
	for _, states := range []int{mostStates + 1, api.MaxStates, 20} {
		refused(t, ring(states), api.ErrLimit, states, "states")
	}
}

// 15.1: Next is as long as Pay, ahead of whatever is wrong with a row.
func TestCheckNext(t *testing.T) {
	for states := 1; states <= mostStates; states++ {
		for _, rows := range []int{0, states - 1, states + 1, api.MaxSize} {
			a := bandit.Arm{Pay: make([]ratio.Ratio, states)}
			refused(t, bandit.Arm{Pay: a.Pay, Next: make([][]ratio.Ratio, rows)}, api.ErrForm, states, rows)
			for range rows {
				a.Next = append(a.Next, sure(states, 0))
			}
			refused(t, a, api.ErrForm, states, "states", rows, "rows")
			if rows > 0 {
				a.Next[0][0] = ratio.Whole(-1)
				refused(t, a, api.ErrForm, states, "states", rows, "rows, one below 0")
			}
		}
	}
}

// 15.1: each wrong row alone, and at each place among right ones.
func TestCheckWrongRow(t *testing.T) {
	for states := 1; states <= mostStates; states++ {
		for _, bad := range wrongRows(t, states) {
			for s := range states {
				a := ring(states)
				a.Next[s] = bad.row
				refused(t, a, bad.want, states, "states", bad.name, "in", s)
			}
		}
	}
}

// 15.1: of two wrong rows the first one's error, wholly ahead of the next one's;
// and of two wrong arms likewise.
func TestCheckWrongTwo(t *testing.T) {
	for _, first := range wrongRows(t, 3) {
		for _, second := range wrongRows(t, 3) {
			both, a, b := ring(3), ring(3), ring(3)
			both.Next[0], both.Next[2] = first.row, second.row
			says(t, bandit.Check(both), first.want, first.name, "ahead of", second.name)
			refusedOne(t, both, part(1, 2), first.want, first.name, "ahead of", second.name)
			a.Next[2], b.Next[0] = first.row, second.row
			refusedTwo(t, a, b, part(1, 2), first.want, first.name, "ahead of", second.name)
		}
	}
}

// 15.1: what a time later may be worth: 0, and just below 1, not 1, and not
// below 0. It is told with the first arm: ahead of what is wrong with the
// second one.
func TestWorth(t *testing.T) {
	right, not := worths(t)
	a, b := ring(2), ring(3)
	for _, worth := range right {
		_, err := bandit.While(a, worth, 0, flags("yn"))
		says(t, err, api.OK, "While", worth.Text())
		_, err = bandit.Index(a, worth)
		says(t, err, api.OK, "Index", worth.Text())
		_, err = bandit.Again(a, worth, 0)
		says(t, err, api.OK, "Again", worth.Text())
		_, _, err = bandit.Play(a, b, worth, 0, 0, 2)
		says(t, err, api.OK, "Play", worth.Text())
		_, _, err = bandit.Ever(a, b, worth, 0, 0)
		says(t, err, api.OK, "Ever", worth.Text())
	}
	sick := ring(2)
	sick.Next[1] = nil
	for _, worth := range not {
		refusedOne(t, a, worth, api.ErrArg, worth.Text())
		for _, other := range []bandit.Arm{b, {}, ring(mostStates + 1), sick} {
			refusedTwo(t, a, other, worth, api.ErrArg, worth.Text(), written(other))
		}
	}
}

// noStates is numbers that no state of so many has.
func noStates(states int) []int {
	return []int{-1, states, states + 1, -states, math.MinInt, math.MaxInt}
}

// 15.2: no such state, whatever some is; some that is not as long as Pay.
func TestWrongState(t *testing.T) {
	half := part(1, 2)
	for states := 1; states <= mostStates; states++ {
		a := ring(states)
		for _, state := range noStates(states) {
			x, err := bandit.Again(a, half, state)
			nothing(t, err, api.ErrRange, []ratio.Ratio{x}, "Again", states, state)
			for _, n := range []int{states, 0, states + 1} {
				x, err := bandit.While(a, half, state, make([]bool, n))
				nothing(t, err, api.ErrRange, []ratio.Ratio{x}, "While", states, state, n)
			}
		}
		for state := range states {
			for _, n := range []int{0, states - 1, states + 1, api.MaxSize} {
				for _, on := range []bool{false, true} {
					x, err := bandit.While(a, half, state, like(n, on))
					nothing(t, err, api.ErrForm, []ratio.Ratio{x}, "While", states, state, n)
				}
			}
			x, err := bandit.While(a, half, state, nil)
			nothing(t, err, api.ErrForm, []ratio.Ratio{x}, "While of none", states, state)
		}
	}
}

// 15.3: no such state of a, or of b (though the other arm may have it), and
// fewer pulls than none, or more than 12.
func TestWrongTwo(t *testing.T) {
	half := part(1, 2)
	for n := 1; n <= mostStates; n++ {
		for m := 1; m <= mostStates; m++ {
			a, b := ring(n), ring(m)
			refuse := func(i, k int) {
				x, y, err := bandit.Ever(a, b, half, i, k)
				nothing(t, err, api.ErrRange, []ratio.Ratio{x, y}, "Ever", n, m, i, k)
				for _, times := range []int{0, 1, -1} {
					x, y, err = bandit.Play(a, b, half, i, k, times)
					nothing(t, err, api.ErrRange, []ratio.Ratio{x, y}, "Play", n, m, i, k, times)
				}
			}
			for _, i := range noStates(n) {
				refuse(i, 0)
				refuse(i, m-1)
				refuse(i, m)
			}
			for _, k := range noStates(m) {
				refuse(0, k)
				refuse(n-1, k)
			}
			for _, times := range []int{-1, mostTimes + 1, -mostTimes, 100, math.MinInt, math.MaxInt} {
				x, y, err := bandit.Play(a, b, half, n-1, m-1, times)
				nothing(t, err, api.ErrRange, []ratio.Ratio{x, y}, "Play", n, m, times)
			}
		}
	}
}
