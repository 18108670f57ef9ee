package bandit_test

import (
	"math/big"
	"math/rand"
	"testing"

	"foresight/api"
	"foresight/bandit"
	"foresight/ratio"
)

// two is two arms by the library, with their indices.
type two struct {
	a, b  chain
	x, y  []*big.Rat
	worth *big.Rat
}

// twoOf is that of two arms.
func twoOf(t *testing.T, a, b bandit.Arm, worth ratio.Ratio) two {
	t.Helper()
	return two{chainOf(t, a), chainOf(t, b), gittins(t, a, worth), gittins(t, b, worth), known(t, worth)}
}

// pulls is what it is worth to pull a, and b, in states i and k, by what states
// are worth then.
func (g two) pulls(i, k int, then func(i, k int) *big.Rat) (ofA, ofB *big.Rat) {
	ofA, ofB = new(big.Rat), new(big.Rat)
	for j, share := range g.a.next[i] {
		if share.Sign() != 0 {
			ofA.Add(ofA, new(big.Rat).Mul(share, then(j, k)))
		}
	}
	for j, share := range g.b.next[k] {
		if share.Sign() != 0 {
			ofB.Add(ofB, new(big.Rat).Mul(share, then(i, j)))
		}
	}
	ofA.Mul(ofA, g.worth).Add(ofA, g.a.pay[i])
	ofB.Mul(ofB, g.worth).Add(ofB, g.b.pay[k])
	return ofA, ofB
}

// goesFirst says whether a is pulled by the index.
func (g two) goesFirst(i, k int) bool { return g.x[i].Cmp(g.y[k]) >= 0 }

// byIndex is 15.3's first number, by the library.
func (g two) byIndex(i, k, times int) *big.Rat {
	if times == 0 {
		return new(big.Rat)
	}
	ofA, ofB := g.pulls(i, k, func(i, k int) *big.Rat { return g.byIndex(i, k, times-1) })
	if g.goesFirst(i, k) {
		return ofA
	}
	return ofB
}

// most is 15.3's second number, by the library.
func (g two) most(i, k, times int) *big.Rat {
	if times == 0 {
		return new(big.Rat)
	}
	ofA, ofB := g.pulls(i, k, func(i, k int) *big.Rat { return g.most(i, k, times-1) })
	if ofA.Cmp(ofB) < 0 {
		return ofB
	}
	return ofA
}

// played fails unless Play tells these numbers.
func played(t *testing.T, a, b bandit.Arm, worth ratio.Ratio, i, k, times int, byIndex, best string) {
	t.Helper()
	x, y, err := bandit.Play(a, b, worth, i, k, times)
	is(t, x, err, byIndex, "by the index", written(a), written(b), worth.Text(), i, k, times)
	is(t, y, err, best, "the best", written(a), written(b), worth.Text(), i, k, times)
}

// everPlayed fails unless Ever tells this number, twice.
func everPlayed(t *testing.T, a, b bandit.Arm, worth ratio.Ratio, i, k int, want string) {
	t.Helper()
	x, y, err := bandit.Ever(a, b, worth, i, k)
	is(t, x, err, want, "by the index", written(a), written(b), worth.Text(), i, k)
	is(t, y, err, want, "the best", written(a), written(b), worth.Text(), i, k)
}

// Arms of the cases by hand: always 1; nothing at first, then 3 once (by the
// worth 1/2 its index is 1 at first, too); always 2, from the second pull on.
const (
	steady = "1 | 1"
	slow   = "0 3 0 | 0 1 0; 0 0 1; 0 0 1"
	warm   = "0 2 | 0 1; 0 1"
)

// 15.3: Play by hand. Of like indices a's goes first, though b may be better
// with few pulls to come; also a greater index may be worse then.
func TestPlay(t *testing.T) {
	for _, c := range []struct {
		a, b, worth   string
		i, k, times   int
		byIndex, best string
	}{
		{steady, "2 | 1", "1/2", 0, 0, 0, "0", "0"},
		{steady, "2 | 1", "1/2", 0, 0, 1, "2", "2"},
		{steady, "2 | 1", "1/2", 0, 0, 3, "7/2", "7/2"},
		{"2 | 1", steady, "1/2", 0, 0, 12, "4095/1024", "4095/1024"},
		{steady, "-2 | 1", "0", 0, 0, 12, "1", "1"},
		{"-1 | 1", "-2 | 1", "1/2", 0, 0, 2, "-3/2", "-3/2"},
		{steady, slow, "1/2", 0, 0, 1, "1", "1"},
		{slow, steady, "1/2", 0, 0, 1, "0", "1"},
		{steady, slow, "1/2", 0, 0, 2, "3/2", "3/2"},
		{slow, steady, "1/2", 0, 0, 2, "3/2", "3/2"},
		{steady, slow, "1/2", 0, 0, 3, "7/4", "7/4"},
		{slow, steady, "1/2", 0, 0, 3, "7/4", "7/4"},
		{slow, steady, "1/2", 1, 0, 3, "15/4", "15/4"},
		{steady, slow, "1/2", 0, 1, 3, "15/4", "15/4"},
		{slow, steady, "1/2", 2, 0, 3, "7/4", "7/4"},
		{steady, warm, "3/4", 0, 0, 1, "0", "1"},
		{warm, steady, "3/4", 0, 0, 2, "3/2", "7/4"},
		{steady, warm, "3/4", 0, 0, 3, "21/8", "21/8"},
		{warm, steady, "3/4", 0, 0, 3, "21/8", "21/8"},
		{steady, warm, "0", 0, 0, 12, "1", "1"},
		{steady, warm, "0", 0, 1, 12, "2", "2"},
		{example, steady, "1/2", 0, 0, 2, "5/2", "5/2"},
		{example, steady, "1/2", 2, 0, 1, "1", "1"},
		{example, example, "1/2", 0, 1, 3, "17/4", "17/4"},
	} {
		played(t, arm(t, c.a), arm(t, c.b), one(t, c.worth), c.i, c.k, c.times, c.byIndex, c.best)
	}
}

// 15.3: Play of what looks drawn, from each pair of states, against the
// library; the best is no less than by the index, and sometimes more.
func TestPlayDrawn(t *testing.T) {
	die := rand.New(rand.NewSource(6))
	var more, alike int
	for i := range 180 {
		a, b, worth := drawn(die, 1+i%3), drawn(die, 1+i/3%3), drawnWorth(die)
		if i%10 == 0 {
			b = a
		}
		g, times := twoOf(t, a, b, worth), i%5
		for s := range a.Pay {
			for k := range b.Pay {
				byIndex, best := g.byIndex(s, k, times), g.most(s, k, times)
				played(t, a, b, worth, s, k, times, byIndex.RatString(), best.RatString())
				if best.Cmp(byIndex) > 0 {
					more++
				}
				if g.x[s].Cmp(g.y[k]) == 0 {
					alike++
				}
			}
		}
	}
	if more < 20 || alike < 20 {
		t.Errorf("of the drawn ones the best is more in %d, indices are like in %d: too few", more, alike)
	}
}

// 15.3: as many states and pulls as there may be, step by step by the library.
func TestPlayOfMany(t *testing.T) {
	die := rand.New(rand.NewSource(7))
	for i := range 4 {
		a, b, worth := drawn(die, mostStates), drawn(die, mostStates), part(6, 7)
		if i == 3 {
			a, b = long(t, a), long(t, b)
		}
		g := twoOf(t, a, b, worth)
		v, most := zeros(), zeros()
		for range mostTimes {
			nextV, nextMost := zeros(), zeros()
			for s := range mostStates {
				for k := range mostStates {
					ofA, ofB := g.pulls(s, k, func(i, k int) *big.Rat { return v[i][k] })
					if nextV[s][k] = ofB; g.goesFirst(s, k) {
						nextV[s][k] = ofA
					}
					ofA, ofB = g.pulls(s, k, func(i, k int) *big.Rat { return most[i][k] })
					if nextMost[s][k] = ofA; ofA.Cmp(ofB) < 0 {
						nextMost[s][k] = ofB
					}
				}
			}
			v, most = nextV, nextMost
		}
		for range 3 {
			s, k := die.Intn(mostStates), die.Intn(mostStates)
			played(t, a, b, worth, s, k, mostTimes, v[s][k].RatString(), most[s][k].RatString())
		}
	}
}

// zeros is a 0 for each pair of states of two arms with as many as may be.
func zeros() (out [mostStates][mostStates]*big.Rat) {
	for i := range out {
		for k := range out[i] {
			out[i][k] = new(big.Rat)
		}
	}
	return out
}

// 15.3: Ever by hand.
func TestEver(t *testing.T) {
	for _, c := range []struct {
		a, b, worth string
		i, k        int
		want        string
	}{
		{steady, "2 | 1", "1/2", 0, 0, "4"},
		{"2 | 1", steady, "1/2", 0, 0, "4"},
		{"-1 | 1", "-2 | 1", "1/2", 0, 0, "-2"},
		{steady, steady, "6/7", 0, 0, "7"},
		{steady, "2 | 1", "0", 0, 0, "2"},
		{steady, slow, "1/2", 0, 0, "2"},
		{slow, steady, "1/2", 0, 0, "2"},
		{slow, steady, "1/2", 1, 0, "4"},
		{slow, steady, "1/2", 2, 0, "2"},
		{steady, slow, "1/2", 0, 1, "4"},
		{steady, warm, "3/4", 0, 0, "6"},
		{warm, steady, "3/4", 0, 0, "6"},
		{warm, steady, "1/4", 0, 0, "4/3"},
		{steady, warm, "1/4", 0, 1, "8/3"},
		{example, steady, "1/2", 0, 0, "3"},
		{example, steady, "1/2", 1, 0, "4"},
		{example, steady, "1/2", 2, 0, "2"},
		{slow, slow, "1/2", 0, 1, "15/4"},
	} {
		everPlayed(t, arm(t, c.a), arm(t, c.b), one(t, c.worth), c.i, c.k, c.want)
	}
}

// planned is what each pair of states is worth for ever by a plan (whether a is
// pulled, for each pair), by the library.
func (g two) planned(plan []bool) []*big.Rat {
	n := len(g.b.pay)
	var c chain
	for p, ofA := range plan {
		i, k := p/n, p%n
		row := make([]*big.Rat, len(plan))
		for q := range row {
			row[q] = new(big.Rat)
		}
		if ofA {
			c.pay = append(c.pay, g.a.pay[i])
			for j, share := range g.a.next[i] {
				row[j*n+k] = share
			}
		} else {
			c.pay = append(c.pay, g.b.pay[k])
			for j, share := range g.b.next[k] {
				row[i*n+j] = share
			}
		}
		c.next = append(c.next, row)
	}
	return c.total(g.worth)
}

// 15.3 (Gittins): no plan is worth more than to pull the arm with the greater
// index, and Ever tells what that is worth, twice.
func TestEverIsTheBestOfAllPlans(t *testing.T) {
	die := rand.New(rand.NewSource(8))
	for i := range 40 {
		a, b, worth := drawn(die, 1+i%3), drawn(die, 1+die.Intn(2)), drawnWorth(die)
		if i%2 == 0 {
			a, b = b, a
		}
		g := twoOf(t, a, b, worth)
		pairs := len(a.Pay) * len(b.Pay)
		most := make([]*big.Rat, pairs)
		for _, plan := range sets(pairs) {
			for p, v := range g.planned(plan) {
				if most[p] == nil || v.Cmp(most[p]) > 0 {
					most[p] = v
				}
			}
		}
		for p, want := range most {
			everPlayed(t, a, b, worth, p/len(b.Pay), p%len(b.Pay), want.RatString())
		}
	}
}

// 15.3: Ever from each pair of states, by equations of the library; and these
// are a time ahead what they are, if one does the best, so no plan is worth
// more.
func TestEverDrawn(t *testing.T) {
	die := rand.New(rand.NewSource(9))
	for i := range 16 {
		a, b, worth := drawn(die, 2+i%4), drawn(die, 5-i%4), drawnWorth(die)
		switch i {
		case 3, 7:
			a, b = drawn(die, mostStates), drawn(die, mostStates)
		case 11:
			a, b, worth = long(t, drawn(die, mostStates)), long(t, drawn(die, mostStates)), ratio.Whole(1).Sub(one(t, "~"))
		}
		g, n := twoOf(t, a, b, worth), len(b.Pay)
		plan := make([]bool, len(a.Pay)*n)
		for p := range plan {
			plan[p] = g.goesFirst(p/n, p%n)
		}
		v := g.planned(plan)
		for p := range v {
			everPlayed(t, a, b, worth, p/n, p%n, v[p].RatString())
			ofA, ofB := g.pulls(p/n, p%n, func(i, k int) *big.Rat { return v[i*n+k] })
			if ofA.Cmp(ofB) < 0 {
				ofA = ofB
			}
			if ofA.Cmp(v[p]) != 0 {
				t.Errorf("%s, %s, %s: %d is worth %s, a time ahead %s", written(a), written(b), worth.Text(), p, v[p], ofA)
			}
		}
	}
}

// 15.3: what is for ever is what is so with many pulls, but for what comes
// behind them.
func TestEverIsNearPlay(t *testing.T) {
	die := rand.New(rand.NewSource(10))
	for i := range 30 {
		a, b, worth := drawn(die, 1+i%mostStates), drawn(die, 1+i/2%mostStates), part(1, 3)
		x, y, err := bandit.Play(a, b, worth, 0, 0, mostTimes)
		says(t, err, api.OK, "Play", written(a), written(b))
		p, q, err := bandit.Ever(a, b, worth, 0, 0)
		says(t, err, api.OK, "Ever", written(a), written(b))
		// No pay is beyond 6: from then on there are at most 6 * 3/2 times 3^-12.
		for _, far := range []ratio.Ratio{x.Sub(p), y.Sub(q)} {
			if d := known(t, far); d.Abs(d).Cmp(big.NewRat(9, 531441)) > 0 {
				t.Errorf("%s, %s: %s and %s, for ever %s and %s", written(a), written(b), x.Text(), y.Text(), p.Text(), q.Text())
			}
		}
	}
}

// spoil writes into a list, up to the end of its memory.
func spoil[T any](l []T, a T) {
	for i := range l[:cap(l)] {
		l[:cap(l)][i] = a
	}
}

// roomy is an arm with more behind each of its lists.
func roomy(t *testing.T, text string) bandit.Arm {
	t.Helper()
	a, more := arm(t, text), ratio.Whole(77)
	states := len(a.Pay)
	for s, row := range a.Next {
		a.Next[s] = append(row, more)[:states]
	}
	a.Pay = append(a.Pay, more)[:states]
	a.Next = append(a.Next, []ratio.Ratio{more})[:states]
	return a
}

// stays fails unless an arm of roomy is as it was, behind its lists, too.
func stays(t *testing.T, a bandit.Arm, text string) {
	t.Helper()
	if written(a) != text {
		t.Errorf("%s became %s", text, written(a))
	}
	states := len(a.Pay)
	behind := []ratio.Ratio{a.Pay[:states+1][states]}
	for _, row := range a.Next {
		behind = append(behind, row[:states+1][states])
	}
	behind = append(behind, a.Next[:states+1][states]...)
	for _, more := range behind {
		if more.Text() != "77" {
			t.Errorf("%s: behind its lists stands %s", text, ratio.Words(behind))
		}
	}
}

// P4: what is handed in stays as it is, also behind a list's length; and what
// came out is the caller's.
func TestArgumentsStay(t *testing.T) {
	half := part(1, 2)
	a, b := roomy(t, example), roomy(t, warm)
	some := []bool{true, true, false, true}[:3]
	for range 2 {
		index, err := bandit.Index(a, half)
		are(t, index, err, "5/3 3 5/11")
		spoil(index, ratio.Whole(-55))
		x, err := bandit.While(a, half, 0, some)
		is(t, x, err, "5/3")
		x, err = bandit.Again(a, half, 2)
		is(t, x, err, "5/11")
		played(t, a, b, half, 0, 0, 2, "5/2", "5/2")
		played(t, b, a, half, 0, 0, 2, "5/2", "5/2")
		played(t, a, a, half, 0, 0, 2, "5/2", "5/2")
		everPlayed(t, a, b, half, 1, 1, "5")
		says(t, bandit.Check(a), api.OK)
		stays(t, a, example)
		stays(t, b, warm)
		if got := some[:4]; !got[0] || !got[1] || got[2] || !got[3] {
			t.Errorf("some became %v", got)
		}
	}
}
