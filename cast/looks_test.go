package cast_test

import (
	"math/big"
	"math/rand"
	"slices"
	"strings"
	"testing"

	"foresight/api"
	"foresight/cast"
	"foresight/ratio"
)

// 23.2: both by hand.
func TestLooksByHand(t *testing.T) {
	for _, c := range []struct{ l, from, want string }{
		{"", "3 4", ""},
		{"", "3 0", ""},
		// As much is known as is seen: half of each.
		{"1 0 6 1", "2 1", "4 1/2"},
		{"1 1 6 2", "2 1", "4 1"},
		// p = 4 + 2: 3/4 of what is seen, 1/4 of 4.
		{"2 2 6 2", "2 1", "11/2 3/2"},
		{"-2 2 6 2", "2 1", "7/2 3/2"},
		{"1/2 0 6 1", "2 8", "13/3 2/3"},
		{"0 3 8 1", "2 5", "6 3/4"},
		{"1 0 6 1; 1 0 7 1; 1 0 1 1", "2 1", "4 1/2; 5 1/3; 4 1/4"},
		{"1 3/2 6 2; 2 0 1 4", "2 1/2", "4 1; 9/2 2"},
		{"1 1 5 1", "0 0", "5/2 1/2"},
	} {
		kalman(t, looks(t, c.l), state(t, c.from), c.want)
		inform(t, looks(t, c.l), state(t, c.from), c.want)
	}
}

// 23.2: Kalman where a p is 0: what is seen counts for nothing there.
func TestKalmanWithoutSpread(t *testing.T) {
	kalman(t, looks(t, "1 0 6 1"), state(t, "2 0"), "2 0")
	kalman(t, looks(t, "3 0 100 1/9"), state(t, "2 0"), "6 0")
	kalman(t, looks(t, "0 0 6 1"), state(t, "2 5"), "0 0")
	kalman(t, looks(t, "-1/2 0 6 1; 3 0 1 1; 0 0 1 1; 1 0 8 1"), state(t, "2 0"), "-1 0; -3 0; 0 0; 0 0")
	kalman(t, looks(t, "2 0 6 1; 1 1 6 1; 0 0 6 1; 1 2 6 1"), state(t, "2 0"), "4 0; 5 1/2; 0 0; 4 2/3")
}

// behind is the state behind a look, by the words.
func behind(t *testing.T, x cast.Look, mean, spread *big.Rat) (*big.Rat, *big.Rat) {
	t.Helper()
	grow, blur := known(t, x.Grow), known(t, x.Blur)
	m := product(grow, mean)
	p := sum(product(product(grow, grow), spread), known(t, x.Stir))
	if p.Sign() == 0 {
		return m, p
	}
	after := quotient(whole(1), sum(quotient(whole(1), p), quotient(whole(1), blur)))
	return product(after, sum(quotient(m, p), quotient(known(t, x.Seen), blur))), after
}

// told is the states behind all looks, by the words; false, if a p is 0.
func told(t *testing.T, l []cast.Look, s cast.State) (string, bool) {
	t.Helper()
	var out []string
	some := true
	mean, spread := known(t, s.Mean), known(t, s.Spread)
	for _, x := range l {
		mean, spread = behind(t, x, mean, spread)
		some = some && spread.Sign() > 0
		out = append(out, words([]*big.Rat{mean, spread}))
	}
	return strings.Join(out, "; "), some
}

// 23.2: both by the words.
func TestLooksDrawn(t *testing.T) {
	die := rand.New(rand.NewSource(1))
	without := 0
	for i := range 400 {
		l := drawnLooks(die, die.Intn(9))
		s := cast.State{Mean: drawn(die), Spread: part(die.Intn(5), 1+die.Intn(3))}
		if i%5 == 4 && len(l) > 0 {
			l[die.Intn(len(l))].Blur = one(t, "~")
			l[die.Intn(len(l))].Stir = one(t, "~")
		}
		want, some := told(t, l, s)
		kalman(t, l, s, want)
		if some {
			inform(t, l, s, want)
			continue
		}
		refusedInform(t, l, s, api.ErrZero)
		without++
	}
	if without < 20 {
		t.Errorf("of %d there is no spread: too few", without)
	}
}

// 23.2: as many looks as there may be.
func TestOfManyLooks(t *testing.T) {
	die := rand.New(rand.NewSource(2))
	for _, l := range [][]cast.Look{
		drawnLooks(die, api.MaxSize),
		slices.Repeat(looks(t, "1 1 3 1"), api.MaxSize),
		slices.Repeat(looks(t, "1 0 3 1"), api.MaxSize),
	} {
		for i := range l {
			l[i].Stir = l[i].Stir.Add(part(1, 1+i%3))
		}
		s := cast.State{Mean: ratio.Whole(2), Spread: ratio.Whole(3)}
		want, _ := told(t, l, s)
		kalman(t, l, s, want)
		inform(t, l, s, want)
	}
}

// Two forms of what is known are one: also from where one left off.
func TestTwoFormsAreOne(t *testing.T) {
	die := rand.New(rand.NewSource(3))
	for range 100 {
		l := drawnLooks(die, 2+die.Intn(20))
		for i := range l {
			l[i].Stir = l[i].Stir.Add(part(1, 5))
		}
		s := cast.State{Mean: drawn(die), Spread: part(die.Intn(5), 1+die.Intn(3))}
		all, err := cast.Kalman(l, s)
		says(t, err, api.OK)
		inform(t, l, s, stateWords(all...))
		cut := die.Intn(len(l)-1) + 1
		kalman(t, l[cut:], all[cut-1], stateWords(all[cut:]...))
		inform(t, l[cut:], all[cut-1], stateWords(all[cut:]...))
	}
}

// solved is x by which each row times x is what stands behind the row, by the
// library: rows have just one such x. It writes into them.
func solved(rows [][]*big.Rat) []*big.Rat {
	n := len(rows)
	for k := range n {
		at := k
		for rows[at][k].Sign() == 0 {
			at++
		}
		rows[k], rows[at] = rows[at], rows[k]
		for i := range n {
			if i == k {
				continue
			}
			times := quotient(rows[i][k], rows[k][k])
			for j := range n + 1 {
				rows[i][j] = less(rows[i][j], product(times, rows[k][j]))
			}
		}
	}
	var out []*big.Rat
	for k := range n {
		out = append(out, quotient(rows[k][n], rows[k][k]))
	}
	return out
}

// noughts is so many rows of so many noughts.
func noughts(rows, n int) [][]*big.Rat {
	var out [][]*big.Rat
	for range rows {
		var row []*big.Rat
		for range n {
			row = append(row, new(big.Rat))
		}
		out = append(out, row)
	}
	return out
}

// leastSquares is the equations of the numbers that nobody sees, ahead of all
// looks and at each, by which the squares of what they are less what was known
// at first, less what they grow to, and less what is seen, each divided by its
// spread, are the least together.
func leastSquares(t *testing.T, l []cast.Look, s cast.State) [][]*big.Rat {
	t.Helper()
	n := len(l) + 1
	rows := noughts(n, n+1)
	add := func(i, j int, a *big.Rat) { rows[i][j] = sum(rows[i][j], a) }
	first := quotient(whole(1), known(t, s.Spread))
	add(0, 0, first)
	add(0, n, product(first, known(t, s.Mean)))
	for k, x := range l {
		stir, blur, grow := quotient(whole(1), known(t, x.Stir)), quotient(whole(1), known(t, x.Blur)), known(t, x.Grow)
		add(k, k, product(product(grow, grow), stir))
		add(k, k+1, less(whole(0), product(grow, stir)))
		add(k+1, k, less(whole(0), product(grow, stir)))
		add(k+1, k+1, sum(stir, blur))
		add(k+1, n, product(blur, known(t, x.Seen)))
	}
	return rows
}

// What is known behind the last look is what the least squares over all looks
// together tell of it; its spread is what they tell with 1 for the last number
// and 0 for all others on the right.
func TestKalmanIsLeastSquares(t *testing.T) {
	die := rand.New(rand.NewSource(4))
	for range 60 {
		l := drawnLooks(die, 1+die.Intn(6))
		for i := range l {
			l[i].Stir = l[i].Stir.Add(part(1, 1+die.Intn(4)))
		}
		s := cast.State{Mean: drawn(die), Spread: part(1+die.Intn(5), 1+die.Intn(3))}
		mean := solved(leastSquares(t, l, s))
		unit := leastSquares(t, l, s)
		for i := range unit {
			unit[i][len(l)+1] = whole(0)
		}
		unit[len(l)][len(l)+1] = whole(1)
		spread := solved(unit)
		got, err := cast.Kalman(l, s)
		says(t, err, api.OK)
		want := words([]*big.Rat{mean[len(l)], spread[len(l)]})
		if len(got) != len(l) || stateWords(got[len(l)-1]) != want {
			t.Errorf("%s from %s: %s, want %s at last", lookWords(l), stateWords(s), stateWords(got...), want)
		}
	}
}

// P4: what is handed in stays as it is, also behind a list's length; and what
// came out is the caller's.
func TestStatesAreFresh(t *testing.T) {
	text := "2 2 6 2; 1 1 3 1; -1/2 1 0 3"
	l := append(looks(t, text), looks(t, "7 7 7 7")...)
	l = l[:len(l)-1]
	s := state(t, "2 1")
	want, _ := told(t, l, s)
	for range 2 {
		for _, ask := range []func([]cast.Look, cast.State) ([]cast.State, error){cast.Kalman, cast.Inform} {
			got, err := ask(l, s)
			says(t, err, api.OK)
			for i := range got[:cap(got)] {
				got[:cap(got)][i] = state(t, "77 77")
			}
			kalman(t, l, s, want)
			inform(t, l, s, want)
		}
		if lookWords(l) != text || lookWords(l[len(l):len(l)+1]) != "7 7 7 7" || stateWords(s) != "2 1" {
			t.Errorf("%s, then %s, from %s", lookWords(l), lookWords(l[len(l):len(l)+1]), stateWords(s))
		}
	}
}
