package bandit

import (
	"testing"

	"foresight/ratio"
)

// halves is an arm of two states: from each to each alike.
func halves(pays ...int) Arm {
	var a Arm
	half, _ := ratio.Of(1, 2)
	for _, pay := range pays {
		a.Pay = append(a.Pay, ratio.Whole(pay))
		a.Next = append(a.Next, []ratio.Ratio{half, half})
	}
	return a
}

// 15.3: the best is found whatever plan one begins with: it doesn't hang on the
// index.
func TestBestFromAnyPlan(t *testing.T) {
	worth, _ := ratio.Of(3, 4)
	slow := Arm{
		Pay:  []ratio.Ratio{ratio.Whole(-1), ratio.Whole(9)},
		Next: [][]ratio.Ratio{{{}, ratio.Whole(1)}, {ratio.Whole(1), {}}},
	}
	for _, b := range []Arm{halves(2, 3), halves(-5, 1), slow} {
		a := halves(0, 4)
		g := newGame(a, b, worth)
		want, worse := ratio.Words(g.ever()), 0
		for plan := range 1 << len(g.a) {
			g.first = func(pair int) bool { return plan>>pair&1 == 1 }
			if ratio.Words(g.ever()) != want {
				worse++
			}
			if got := ratio.Words(g.best()); got != want {
				t.Errorf("%v: from plan %b on: %s, want %s", b, plan, got, want)
			}
		}
		if worse == 0 {
			t.Errorf("%v: no plan is worse", b)
		}
	}
}

// Rows lie side by side in one list, and what is put to one's end stays out of
// the next one.
func TestRowsHaveNoRoomBeyond(t *testing.T) {
	for n := range 6 {
		rows := square(n)
		for i, row := range rows {
			if len(row) != n || cap(row) != n {
				t.Errorf("row %d of %d: %d, room for %d", i, n, len(row), cap(row))
			}
			_ = append(row, ratio.Whole(7))
		}
		for _, row := range rows {
			if ratio.Sum(row...).Sign() != 0 {
				t.Errorf("rows of %d: %s", n, ratio.Words(row))
			}
		}
	}
}
