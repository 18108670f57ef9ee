package walk_test

import (
	"math"
	"math/big"
	"strings"
	"testing"

	"foresight/api"
	"foresight/ratio"
	"foresight/walk"
)

// most is the document's bound on steps, places and goals.
const most = 60

// one is the fraction of a text that must be one.
func one(t *testing.T, text string) ratio.Ratio {
	t.Helper()
	a, err := ratio.Parse(text)
	if err != nil {
		t.Fatalf("Parse(%q): %v", text, err)
	}
	return a
}

// says fails unless an error is that Errno itself, as no place belongs to it.
func says(t *testing.T, err error, want api.Errno, what ...any) {
	t.Helper()
	if want == api.OK && err == nil {
		return
	}
	if err != error(want) {
		t.Errorf("%v: error %v, want %v", what, err, want)
	}
}

// counts fails unless a number is told as this text, with no error.
func counts(t *testing.T, got string, err error, want string, what ...any) {
	t.Helper()
	if err != nil || got != want {
		t.Errorf("%v: %q, error %v, want %q", what, got, err, want)
	}
}

// is fails unless a fraction is as wanted, with no error.
func is(t *testing.T, got ratio.Ratio, err error, want string, what ...any) {
	t.Helper()
	if err != nil || got.Text() != want {
		t.Errorf("%v: %s, error %v, want %s", what, got.Text(), err, want)
	}
}

// tried counts, place by place, the rows of so many steps that lead there, by
// going each of them; keep says which places may be come to on the way.
func tried(steps int, keep func(place int) bool) map[int]int {
	out := map[int]int{}
	for row := range 1 << steps {
		place, kept := 0, true
		for i := range steps {
			place += 2*(row>>i&1) - 1
			kept = kept && keep(place)
		}
		if kept {
			out[place]++
		}
	}
	return out
}

// 3.1: every row of up to 12 steps, gone one by one.
func TestRowsTried(t *testing.T) {
	for steps := range 13 {
		all := tried(steps, func(int) bool { return true })
		never := tried(steps, func(place int) bool { return place >= 0 })
		for to := -steps - 4; to <= steps+4; to++ {
			got, err := walk.Ways(steps, to)
			counts(t, got, err, big.NewInt(int64(all[to])).String(), "Ways", steps, to)
			got, err = walk.Above(steps, to)
			counts(t, got, err, big.NewInt(int64(never[to])).String(), "Above", steps, to)
		}
	}
}

// 3.1: each number of steps up to the greatest one, step by step.
func TestRowsStepByStep(t *testing.T) {
	ways := map[int]*big.Int{0: big.NewInt(1)}
	above := map[int]*big.Int{0: big.NewInt(1)}
	number := func(m map[int]*big.Int, to int) *big.Int {
		if n := m[to]; n != nil {
			return n
		}
		return new(big.Int)
	}
	for steps := range most + 1 {
		for to := -steps - 3; to <= steps+3; to++ {
			got, err := walk.Ways(steps, to)
			counts(t, got, err, number(ways, to).String(), "Ways", steps, to)
			got, err = walk.Above(steps, to)
			counts(t, got, err, number(above, to).String(), "Above", steps, to)
		}
		nextWays, nextAbove := map[int]*big.Int{}, map[int]*big.Int{}
		for to := -steps - 1; to <= steps+1; to++ {
			nextWays[to] = new(big.Int).Add(number(ways, to-1), number(ways, to+1))
			if to >= 0 {
				nextAbove[to] = new(big.Int).Add(number(above, to-1), number(above, to+1))
			}
		}
		ways, above = nextWays, nextAbove
	}
}

// 3.1: numbers that are known, and places that can't be reached.
func TestRowsKnown(t *testing.T) {
	for _, c := range []struct {
		steps, to   int
		ways, above string
	}{
		{0, 0, "1", "1"}, {0, 1, "0", "0"}, {0, -1, "0", "0"}, {0, 2, "0", "0"}, {0, -2, "0", "0"},
		{1, 1, "1", "1"}, {1, -1, "1", "0"}, {1, 0, "0", "0"}, {1, 3, "0", "0"}, {1, -3, "0", "0"},
		{2, 0, "2", "1"}, {2, -2, "1", "0"}, {6, 0, "20", "5"}, {6, 2, "15", "9"}, {6, 6, "1", "1"},
		{6, 5, "0", "0"}, {6, 8, "0", "0"}, {6, -8, "0", "0"}, {7, -1, "35", "0"},
		{60, 0, "118264581564861424", "3814986502092304"},
		{60, 60, "1", "1"}, {60, -60, "1", "0"}, {60, 58, "60", "59"}, {60, 61, "0", "0"}, {60, 62, "0", "0"},
		{59, 1, "59132290782430712", "3814986502092304"}, {59, -1, "59132290782430712", "0"},
		{60, math.MaxInt, "0", "0"}, {60, math.MinInt, "0", "0"}, {60, math.MaxInt - 1, "0", "0"},
		{0, math.MaxInt, "0", "0"}, {0, math.MinInt, "0", "0"}, {1, math.MinInt + 1, "0", "0"},
	} {
		got, err := walk.Ways(c.steps, c.to)
		counts(t, got, err, c.ways, "Ways", c.steps, c.to)
		got, err = walk.Above(c.steps, c.to)
		counts(t, got, err, c.above, "Above", c.steps, c.to)
	}
}

// 3.1: too many steps, and fewer than none, whatever the place.
func TestRowsWrong(t *testing.T) {
	for _, steps := range []int{-1, most + 1, 62, -60, math.MaxInt, math.MinInt} {
		for _, to := range []int{0, 1, -1, 60, 61, -61, math.MaxInt, math.MinInt} {
			got, err := walk.Ways(steps, to)
			says(t, err, api.ErrRange, "Ways", steps, to)
			other, err := walk.Above(steps, to)
			says(t, err, api.ErrRange, "Above", steps, to)
			if got != "" || other != "" {
				t.Errorf("%d steps to %d: %q and %q beside an error", steps, to, got, other)
			}
		}
	}
}

// 3.2: every order of up to 11 votes, counted one by one.
func TestAheadCounted(t *testing.T) {
	for votes := 1; votes <= 11; votes++ {
		ahead := tried(votes, func(place int) bool { return place > 0 })
		all := tried(votes, func(int) bool { return true })
		for mine := range votes + 1 {
			got, err := walk.Ahead(mine, votes-mine)
			want := big.NewRat(int64(ahead[2*mine-votes]), int64(all[2*mine-votes]))
			is(t, got, err, want.RatString(), "Ahead", mine, votes-mine)
		}
	}
}

// 3.2: no votes, as many for both, and the most of them.
func TestAheadEdges(t *testing.T) {
	for _, c := range []struct {
		one, other int
		want       string
	}{
		{0, 0, "0"}, {1, 0, "1"}, {0, 1, "0"}, {1, 1, "0"}, {5, 3, "1/4"}, {3, 5, "0"}, {7, 7, "0"},
		{api.MaxTime, 0, "1"}, {0, api.MaxTime, "0"}, {api.MaxTime, api.MaxTime, "0"},
		{api.MaxTime, api.MaxTime - 1, "1/1999999999"}, {api.MaxTime - 1, api.MaxTime, "0"},
		{api.MaxTime, 1, "999999999/1000000001"},
	} {
		got, err := walk.Ahead(c.one, c.other)
		is(t, got, err, c.want, "Ahead", c.one, c.other)
	}
}

// 3.2: votes that can't be, of the one, of the other one, of both.
func TestAheadWrong(t *testing.T) {
	bad := []int{-1, api.MaxTime + 1, math.MinInt, math.MaxInt}
	for _, x := range bad {
		for _, y := range append(bad, 0, 1, api.MaxTime) {
			for _, pair := range [][2]int{{x, y}, {y, x}} {
				got, err := walk.Ahead(pair[0], pair[1])
				says(t, err, api.ErrRange, "Ahead", pair)
				if got.Sign() != 0 {
					t.Errorf("Ahead of %v: %s beside an error", pair, got.Text())
				}
			}
		}
	}
}

// chances is some that lie between 0 and 1, long ones among them.
func chances(t *testing.T) []ratio.Ratio {
	t.Helper()
	var out []ratio.Ratio
	for text := range strings.FieldsSeq("1/2 1/3 2/3 2/5 1/1000000 999999/1000000 50/101 12345678901234567890/98765432109876543211") {
		out = append(out, one(t, text))
	}
	return out
}

// 3.3: numbers that are known.
func TestRuinKnown(t *testing.T) {
	for _, c := range []struct {
		have, goal      int
		up, lost, times string
	}{
		{2, 5, "2/5", "171/211", "1110/211"},
		{1, 2, "1/2", "1/2", "1"}, {1, 2, "1/3", "2/3", "1"}, {1, 3, "1/2", "2/3", "2"},
		{3, 10, "1/2", "7/10", "21"}, {30, 60, "1/2", "1/2", "900"}, {59, 60, "1/2", "1/60", "59"},
		{0, 1, "1/2", "1", "0"}, {1, 1, "1/2", "0", "0"}, {0, 60, "1/3", "1", "0"}, {60, 60, "1/3", "0", "0"},
		{0, 60, "1/2", "1", "0"}, {60, 60, "1/2", "0", "0"}, {0, 5, "4/5", "1", "0"}, {5, 5, "4/5", "0", "0"},
	} {
		lost, times, err := walk.Ruin(c.have, c.goal, one(t, c.up))
		is(t, lost, err, c.lost, "Ruin, lost", c.have, c.goal, c.up)
		is(t, times, err, c.times, "Ruin, times", c.have, c.goal, c.up)
	}
}

// ruins is what Ruin tells of each number up to a goal.
func ruins(t *testing.T, goal int, up ratio.Ratio) (lost, times []ratio.Ratio) {
	t.Helper()
	for have := range goal + 1 {
		x, y, err := walk.Ruin(have, goal, up)
		says(t, err, api.OK, "Ruin", have, goal, up.Text())
		lost, times = append(lost, x), append(times, y)
	}
	return lost, times
}

// 3.3: what one time more makes of it (nothing else is so at both ends and
// from each place to its neighbours).
func TestRuinTimeByTime(t *testing.T) {
	for _, up := range chances(t) {
		down := ratio.Whole(1).Sub(up)
		for _, goal := range []int{1, 2, 3, 7, 20, most} {
			lost, times := ruins(t, goal, up)
			is(t, lost[0], nil, "1", "lost with nothing")
			is(t, lost[goal], nil, "0", "lost at goal")
			is(t, times[0], nil, "0", "times with nothing")
			is(t, times[goal], nil, "0", "times at goal")
			for have := 1; have < goal; have++ {
				next := up.Mul(lost[have+1]).Add(down.Mul(lost[have-1]))
				is(t, lost[have], nil, next.Text(), "lost", have, goal, up.Text())
				next = up.Mul(times[have+1]).Add(down.Mul(times[have-1])).Add(ratio.Whole(1))
				is(t, times[have], nil, next.Text(), "times", have, goal, up.Text())
			}
		}
	}
}

// ruined fails unless Ruin tells an error and nothing else.
func ruined(t *testing.T, have, goal int, up string, want api.Errno) {
	t.Helper()
	lost, times, err := walk.Ruin(have, goal, one(t, up))
	says(t, err, want, "Ruin", have, goal, up)
	if lost.Sign() != 0 || times.Sign() != 0 {
		t.Errorf("Ruin of %d, %d, %s: %s, %s beside an error", have, goal, up, lost.Text(), times.Text())
	}
}

// 3.3: numbers and chances that can't be; of both the numbers are told first.
func TestRuinWrong(t *testing.T) {
	for _, up := range []string{"1/2", "0", "1", "-1/3", "4/3"} {
		for _, pair := range [][2]int{
			{-1, 5}, {6, 5}, {0, 0}, {1, 0}, {0, -1}, {-1, -1}, {0, most + 1}, {most + 1, most + 1}, {most + 1, most},
			{math.MinInt, 5}, {math.MaxInt, 5}, {0, math.MaxInt}, {math.MaxInt, math.MaxInt}, {math.MinInt, math.MinInt},
		} {
			ruined(t, pair[0], pair[1], up, api.ErrRange)
		}
	}
	for _, up := range []string{"0", "1", "-1/3", "4/3", "-1", "2", "1000001/1000000", "-1/1000000"} {
		for _, pair := range [][2]int{{0, 1}, {1, 1}, {2, 5}, {0, most}, {most, most}} {
			ruined(t, pair[0], pair[1], up, api.ErrArg)
		}
	}
}

// gone is how likely one is at each place, by going every row of steps.
func gone(places, start, steps int, up ratio.Ratio) []ratio.Ratio {
	out := make([]ratio.Ratio, places+1)
	down := ratio.Whole(1).Sub(up)
	for row := range 1 << steps {
		place, share := start, ratio.Whole(1)
		for i := range steps {
			if row>>i&1 == 1 {
				share = share.Mul(up)
				if place < places {
					place++
				}
				continue
			}
			share = share.Mul(down)
			if place > 0 {
				place--
			}
		}
		out[place] = out[place].Add(share)
	}
	return out
}

// spreads fails unless the places are as likely as these texts say.
func spreads(t *testing.T, places, start, steps int, up ratio.Ratio, want string) {
	t.Helper()
	got, err := walk.Spread(places, start, steps, up)
	says(t, err, api.OK, "Spread", places, start, steps, up.Text())
	if ratio.Words(got) != want {
		t.Errorf("Spread of %d, %d, %d, %s: %s, want %s", places, start, steps, up.Text(), ratio.Words(got), want)
	}
}

// 3.4: every row of up to 6 steps, gone one by one, chances of 0 and 1 too.
func TestSpreadGone(t *testing.T) {
	ups := append(chances(t), ratio.Whole(0), ratio.Whole(1))
	for _, up := range ups {
		for places := range 5 {
			for start := range places + 1 {
				for steps := range 7 {
					spreads(t, places, start, steps, up, ratio.Words(gone(places, start, steps, up)))
				}
			}
		}
	}
}

// 3.4: known ones: no step, no place but 0, who stays at an end.
func TestSpreadKnown(t *testing.T) {
	for _, c := range []struct {
		places, start, steps int
		up, want             string
	}{
		{0, 0, 0, "1/2", "1"}, {0, 0, 1, "1/3", "1"}, {0, 0, 60, "1/3", "1"}, {0, 0, 60, "0", "1"}, {0, 0, 60, "1", "1"},
		{3, 2, 0, "1/3", "0 0 1 0"}, {3, 2, 1, "1/3", "0 2/3 0 1/3"}, {3, 3, 1, "1/3", "0 0 2/3 1/3"}, {3, 0, 1, "1/3", "2/3 1/3 0 0"},
		{2, 1, 60, "0", "1 0 0"}, {2, 1, 60, "1", "0 0 1"}, {1, 0, 60, "1/4", "3/4 1/4"}, {2, 0, 2, "1/2", "1/2 1/4 1/4"},
	} {
		spreads(t, c.places, c.start, c.steps, one(t, c.up), c.want)
	}
}

// 3.4: the most places and steps: nobody is lost, and where no end is near,
// there are as many ways as 3.1 tells.
func TestSpreadMost(t *testing.T) {
	half := one(t, "1/2")
	got, err := walk.Spread(most, 30, 30, half)
	says(t, err, api.OK, "Spread of 30 steps")
	for place, share := range got {
		ways, err := walk.Ways(30, place-30)
		counts(t, share.Mul(one(t, "1073741824")).Text(), err, ways, "ways to", place)
	}
	for _, up := range append(chances(t), ratio.Whole(0), ratio.Whole(1)) {
		for _, start := range []int{0, 7, most} {
			got, err := walk.Spread(most, start, most, up)
			is(t, ratio.Sum(got...), err, "1", "Spread together", start, up.Text())
			if len(got) != most+1 {
				t.Errorf("Spread over %d places has %d numbers", most, len(got))
			}
		}
	}
}

// 3.4: numbers and chances that can't be; of both the numbers are told first.
func TestSpreadWrong(t *testing.T) {
	refused := func(places, start, steps int, up string, want api.Errno) {
		t.Helper()
		got, err := walk.Spread(places, start, steps, one(t, up))
		says(t, err, want, "Spread", places, start, steps, up)
		if got != nil {
			t.Errorf("Spread of %d, %d, %d, %s: %s beside an error", places, start, steps, up, ratio.Words(got))
		}
	}
	for _, up := range []string{"1/2", "0", "1", "-1/3", "4/3"} {
		for _, l := range [][3]int{
			{-1, 0, 1}, {-1, -1, 1}, {61, 0, 1}, {61, 61, 1}, {5, -1, 1}, {5, 6, 1}, {0, 1, 1}, {60, 61, 1},
			{5, 2, -1}, {5, 2, 61}, {math.MaxInt, 0, 1}, {math.MinInt, 0, 1}, {5, math.MaxInt, 1}, {5, math.MinInt, 1},
			{5, 2, math.MaxInt}, {5, 2, math.MinInt}, {61, -1, 61},
		} {
			refused(l[0], l[1], l[2], up, api.ErrRange)
		}
	}
	for _, up := range []string{"-1/3", "4/3", "-1", "2", "1000001/1000000", "-1/1000000"} {
		for _, l := range [][3]int{{0, 0, 0}, {5, 2, 0}, {5, 0, 3}, {60, 60, 60}} {
			refused(l[0], l[1], l[2], up, api.ErrArg)
		}
	}
}

// P4: an answer is the caller's: what is written into it is not seen later.
func TestSpreadIsFresh(t *testing.T) {
	up := one(t, "1/3")
	for _, steps := range []int{0, 1, 5} {
		got, _ := walk.Spread(3, 1, steps, up)
		want := ratio.Words(got)
		for i := range got {
			got[i] = ratio.Whole(77)
		}
		spreads(t, 3, 1, steps, up, want)
		is(t, up, nil, "1/3", "the chance that was handed in")
	}
}
