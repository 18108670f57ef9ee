package belief_test

import (
	"math"
	"math/rand"
	"slices"
	"strconv"
	"testing"

	"foresight/api"
	"foresight/belief"
	"foresight/ratio"
)

// wrong is a row that may not be, by its name.
type wrong struct {
	name string
	row  []ratio.Ratio
	want api.Errno
}

// wrongShares is ways in which a row of that length may be wrong.
func wrongShares(t *testing.T, n int) []wrong {
	t.Helper()
	least := one(t, "~")
	with := func(place int, a ratio.Ratio) []ratio.Ratio {
		row := sure(n, 0)
		row[place] = row[place].Add(a)
		return row
	}
	out := []wrong{
		{"all 0", make([]ratio.Ratio, n), api.ErrSum},
		{"all below 0", slices.Repeat([]ratio.Ratio{ratio.Whole(-1)}, n), api.ErrArg},
		{"just below 1", with(0, ratio.Ratio{}.Sub(least)), api.ErrSum},
	}
	if n > 1 {
		less := with(0, ratio.Whole(1))
		less[1] = ratio.Whole(-1)
		out = append(out, wrong{"1 together with one below 0", less, api.ErrArg})
	}
	for i := range n {
		at := " at " + strconv.Itoa(i)
		out = append(out,
			wrong{"below 0" + at, with(i, ratio.Whole(-2)), api.ErrArg},
			wrong{"just above 1" + at, with(i, least), api.ErrSum})
		if i > 0 {
			out = append(out, wrong{"just below 0" + at, with(i, ratio.Ratio{}.Sub(least)), api.ErrArg})
		}
	}
	return out
}

// wrongNext is ways in which a row of Next may be wrong.
func wrongNext(t *testing.T, states int) []wrong {
	t.Helper()
	out := append(wrongShares(t, states),
		wrong{"none", nil, api.ErrForm},
		wrong{"empty", []ratio.Ratio{}, api.ErrForm},
		wrong{"longer", sure(states+1, 0), api.ErrForm},
		wrong{"longer, below 0", slices.Repeat([]ratio.Ratio{ratio.Whole(-1)}, states+1), api.ErrForm},
		wrong{"far longer", make([]ratio.Ratio, api.MaxSize+2), api.ErrForm})
	if states > 1 {
		out = append(out, wrong{"shorter", sure(states-1, 0), api.ErrForm})
	}
	return out
}

// wrongSign is ways in which a row of Sign may be wrong, whichever it is.
func wrongSign(t *testing.T, kinds int) []wrong {
	t.Helper()
	return append(wrongShares(t, kinds),
		wrong{"none", nil, api.ErrLimit},
		wrong{"empty", []ratio.Ratio{}, api.ErrLimit},
		wrong{"one more than may be", sure(api.MaxStates+1, 0), api.ErrLimit},
		wrong{"more than may be, below 0", slices.Repeat([]ratio.Ratio{ratio.Whole(-1)}, api.MaxStates+1), api.ErrLimit},
		wrong{"far more than may be", make([]ratio.Ratio, api.MaxSize+2), api.ErrLimit})
}

// refused fails unless all say one thing of what may not be, whatever signs
// they are asked of.
func refused(t *testing.T, h belief.Hidden, want api.Errno, what ...any) {
	t.Helper()
	says(t, belief.Check(h), want, "Check", what)
	for _, signs := range [][]int{nil, {0}, {-1}, {math.MaxInt}, make([]int, mostSigns+1)} {
		refusedSigns(t, h, signs, want, signs, what)
	}
}

// 16.1: what may be: 1 to MaxStates states, 1 to MaxStates kinds of signs.
func TestCheck(t *testing.T) {
	die := rand.New(rand.NewSource(1))
	for states := 1; states <= api.MaxStates; states++ {
		for kinds := 1; kinds <= api.MaxStates; kinds++ {
			for _, h := range []belief.Hidden{ring(states, kinds), drawn(die, states, kinds), long(t, drawn(die, states, kinds))} {
				says(t, belief.Check(h), api.OK, written(h))
			}
		}
	}
}

// 16.1: how many states there may be, whatever else is wrong.
func TestCheckHowManyStates(t *testing.T) {
	refused(t, belief.Hidden{}, api.ErrLimit, "the zero value")
	for _, n := range []int{0, 1, api.MaxStates, api.MaxStates + 1} {
		empty := make([][]ratio.Ratio, n)
		refused(t, belief.Hidden{First: []ratio.Ratio{}, Next: empty, Sign: empty}, api.ErrLimit, "no state", n)
		refused(t, belief.Hidden{First: make([]ratio.Ratio, api.MaxStates+1), Next: empty, Sign: empty}, api.ErrLimit, "one more", n)
	}
	for _, states := range []int{api.MaxStates + 1, 20, api.MaxSize + 2} {
		refused(t, ring(states, 2), api.ErrLimit, states, "states")
	}
}

// 16.1: Next and Sign are as long as First, ahead of what is wrong with a row,
// with First, too.
func TestCheckLengths(t *testing.T) {
	for states := 1; states <= api.MaxStates; states++ {
		for _, n := range []int{0, states - 1, states + 1, api.MaxSize} {
			for _, first := range [][]ratio.Ratio{sure(states, 0), make([]ratio.Ratio, states)} {
				for _, row := range [][]ratio.Ratio{nil, sure(states, 0), make([]ratio.Ratio, api.MaxStates+1)} {
					other := slices.Repeat([][]ratio.Ratio{row}, n)
					h := ring(states, 2)
					h.First, h.Next = first, other
					refused(t, h, api.ErrForm, states, "states", n, "in Next")
					h = ring(states, 2)
					h.First, h.Sign = first, other
					refused(t, h, api.ErrForm, states, "states", n, "in Sign")
					h.Next = other
					refused(t, h, api.ErrForm, states, "states", n, "in both")
				}
			}
		}
	}
}

// 16.1: what is wrong with First, ahead of whatever is wrong with a state.
func TestCheckWrongFirst(t *testing.T) {
	for states := 1; states <= api.MaxStates; states++ {
		for _, bad := range wrongShares(t, states) {
			h := ring(states, 3)
			h.First = bad.row
			refused(t, h, bad.want, states, "states", bad.name)
			h.Next[0] = nil
			refused(t, h, bad.want, states, "states", bad.name, "ahead of Next")
			h.Sign[0] = nil
			refused(t, h, bad.want, states, "states", bad.name, "ahead of Sign")
		}
	}
}

// 16.1: each wrong row alone, and at each place among right ones.
func TestCheckWrongRow(t *testing.T) {
	for states := 1; states <= api.MaxStates; states++ {
		for s := range states {
			for _, bad := range wrongNext(t, states) {
				h := ring(states, 3)
				h.Next[s] = bad.row
				refused(t, h, bad.want, states, "states", bad.name, "in Next of", s)
			}
			for _, kinds := range []int{1, 3, api.MaxStates} {
				for _, bad := range wrongSign(t, kinds) {
					h := ring(states, kinds)
					h.Sign[s] = bad.row
					refused(t, h, bad.want, states, "states", kinds, "signs", bad.name, "in Sign of", s)
				}
			}
		}
	}
}

// 16.1: each row of Sign is as long as the first one (it itself always is),
// and has at most MaxStates, ahead of that.
func TestCheckSignLengths(t *testing.T) {
	for states := 2; states <= api.MaxStates; states++ {
		for kinds := 1; kinds <= api.MaxStates; kinds++ {
			for s := 1; s < states; s++ {
				for n := 1; n <= api.MaxStates; n++ {
					h := ring(states, kinds)
					h.Sign[s] = sure(n, 0)
					if n == kinds {
						says(t, belief.Check(h), api.OK, states, kinds, s)
						continue
					}
					says(t, belief.Check(h), api.ErrForm, states, kinds, s, n)
					h.Sign[s][0] = ratio.Whole(-1)
					says(t, belief.Check(h), api.ErrForm, states, kinds, s, n, "below 0")
				}
			}
		}
	}
	h := ring(3, 2)
	h.Sign[2] = sure(3, 0)
	refused(t, h, api.ErrForm, "a longer row of Sign")
	h.Sign[2] = sure(1, 0)
	refused(t, h, api.ErrForm, "a shorter row of Sign")
}

// 16.1: state by state: a state's row in Next is ahead of its row in Sign, and
// both are ahead of those of the next state.
func TestCheckWrongTwo(t *testing.T) {
	for _, next := range wrongNext(t, 3) {
		for _, sign := range wrongSign(t, 2) {
			h := ring(3, 2)
			h.Next[1], h.Sign[1] = next.row, sign.row
			refused(t, h, next.want, next.name, "in Next, in Sign", sign.name)
			h = ring(3, 2)
			h.Next[0], h.Sign[2] = next.row, sign.row
			refused(t, h, next.want, next.name, "in Next of 0, in Sign of 2", sign.name)
			h = ring(3, 2)
			h.Next[2], h.Sign[1] = next.row, sign.row
			refused(t, h, sign.want, sign.name, "in Sign of 1, in Next of 2", next.name)
		}
	}
	for _, first := range wrongNext(t, 3) {
		for _, second := range wrongNext(t, 3) {
			h := ring(3, 2)
			h.Next[0], h.Next[1] = first.row, second.row
			says(t, belief.Check(h), first.want, "Next:", first.name, second.name)
		}
	}
	for _, first := range wrongSign(t, 2) {
		for _, second := range wrongSign(t, 2) {
			h := ring(3, 2)
			h.Sign[1], h.Sign[2] = first.row, second.row
			says(t, belief.Check(h), first.want, "Sign:", first.name, second.name)
		}
	}
}

// 16.1: at most 12 signs, whatever signs they are.
func TestHowManySigns(t *testing.T) {
	h := ring(1, 1)
	for n := range mostSigns + 1 {
		signs := make([]int, n)
		likely(t, h, signs, "1")
		gone(t, h, signs, make([]int, n), "1")
		filtered(t, h, signs, lines(slices.Repeat([][]ratio.Ratio{sure(1, 0)}, n)))
		smoothed(t, h, signs, lines(slices.Repeat([][]ratio.Ratio{sure(1, 0)}, n)))
	}
	for _, n := range []int{mostSigns + 1, mostSigns + 2, 100} {
		for _, sign := range []int{0, 1, -1, math.MaxInt} {
			signs := slices.Repeat([]int{sign}, n)
			refusedSigns(t, h, signs, api.ErrLimit, n, "signs", sign)
			refusedSigns(t, ring(3, 2), signs, api.ErrLimit, n, "signs of a ring", sign)
		}
	}
}

// 16.1: no such sign, at each place; also where the other signs can't come.
func TestNoSuchSign(t *testing.T) {
	for kinds := 1; kinds <= api.MaxStates; kinds++ {
		for _, states := range []int{1, 3, api.MaxStates} {
			h := ring(states, kinds)
			for _, sign := range []int{-1, kinds, kinds + 1, -kinds, math.MinInt, math.MaxInt} {
				for _, n := range []int{1, 2, mostSigns} {
					for place := range n {
						signs := slices.Repeat([]int{kinds - 1}, n)
						signs[place] = sign
						refusedSigns(t, h, signs, api.ErrRange, states, "states", kinds, "signs", signs)
					}
				}
			}
		}
	}
}
