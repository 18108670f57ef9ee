package trip_test

import (
	"math/rand"
	"slices"
	"testing"

	"foresight/api"
	"foresight/trip"
)

// four is four places, the same both ways; ring is four that are soon gone
// round one way alone.
const (
	four = "0 1 4 3; 1 0 2 5; 4 2 0 1; 3 5 1 0"
	ring = "0 1 9 9; 9 0 1 9; 9 9 0 1; 1 9 9 0"
)

// 19.1: Long by hand.
func TestLong(t *testing.T) {
	for _, c := range []struct {
		m, way string
		want   int
	}{
		{"", "", 0}, {"7", "", 0}, {"7", "0", 0}, {four, "", 0}, {"1 2; 3 4", "0", 0}, {"1 2; 3 4", "1", 0},
		{"1 2; 3 4", "0 1", 5}, {"1 2; 3 4", "1 0", 5},
		// A place may come again, at once, too.
		{"7", "0 0", 14}, {"7", "0 0 0", 21}, {"1 2; 3 4", "1 1", 8}, {"1 2; 3 4", "0 0 1", 6}, {"1 2; 3 4", "0 1 0 1", 10},
		{four, "0 1 2 3", 7}, {four, "3 2 1 0", 7}, {four, "0 2 1 3", 14}, {four, "1 3", 10}, {four, "2 0 2 0", 16},
		{ring, "0 1 2 3", 4}, {ring, "1 2 3 0", 4}, {ring, "3 2 1 0", 36}, {ring, "0 1 2", 11}, {ring, "2 1 0 3", 36},
		{"~ ~; ~ ~", "0 1 1", 3 * api.MaxTime}, {"0 0; 0 0", "0 1", 0},
	} {
		goes(t, plan(t, c.m), numbers(t, c.way), c.want)
	}
}

// 19.1: Long of what looks drawn, over whatever places.
func TestLongDrawn(t *testing.T) {
	die := rand.New(rand.NewSource(4))
	for i := range 300 {
		n := 1 + i%mostPlaces
		m := drawn(die, n, far(die))
		way := make([]int, die.Intn(mostGone+1))
		for k := range way {
			way[k] = die.Intn(n)
		}
		goes(t, m, way, gone(m, way))
	}
}

// 19.2: Round by hand.
func TestRound(t *testing.T) {
	for _, c := range []struct {
		m, way string
		long   int
	}{
		{"", "", 0}, {"0", "0", 0}, {"7", "0", 0},
		{"0 1; 2 0", "0 1", 3}, {"9 1; 2 9", "0 1", 3}, {"~ ~; ~ ~", "0 1", 2 * api.MaxTime},
		{four, "0 1 2 3", 7}, {ring, "0 1 2 3", 4},
		// The other way round.
		{"0 9 1; 1 0 9; 9 1 0", "0 2 1", 3}, {"0 9 9 1; 1 0 9 9; 9 1 0 9; 9 9 1 0", "0 3 2 1", 4},
		// Of several the first.
		{"0 0; 0 0", "0 1", 0}, {"0 5 5; 5 0 5; 5 5 0", "0 1 2", 15}, {"0 1 1 2; 1 0 2 1; 1 2 0 1; 2 1 1 0", "0 1 3 2", 4},
		{"0 9 1 1; 1 0 1 1; 1 1 0 1; 1 1 1 0", "0 2 1 3", 4}, {"0 1 9 9; 9 0 1 1; 1 9 0 1; 1 9 1 0", "0 1 2 3", 4},
		// Nearest first is not the shortest.
		{"0 1 2; 1 0 9; 9 1 0", "0 2 1", 4}, {"0 1 2; 100 0 3; 4 5 0", "0 1 2", 8},
	} {
		round(t, plan(t, c.m), numbers(t, c.way), c.long)
	}
}

// 19.2: of all ways, in their order, the first of the shortest; and no tree is
// longer than it.
func TestRoundDrawn(t *testing.T) {
	die := rand.New(rand.NewSource(5))
	several := 0
	for n := 1; n <= mostPlaces; n++ {
		ways := rows(n, []int{0})
		for range []int{0, 3, 10, 60, 60, 60, 60, 40, 20, 6}[n] {
			m := drawn(die, n, far(die))
			best, like := ways[0], 0
			for _, way := range ways {
				switch long := gone(m, way); {
				case long < gone(m, best):
					best, like = way, 1
				case long == gone(m, best):
					like++
				}
			}
			if like > 1 {
				several++
			}
			round(t, m, best, gone(m, best))
			if tree, err := trip.Tree(m); err != nil || tree > gone(m, best) {
				t.Errorf("%v: a tree of %d, error %v, a round way of %d", m, tree, err, gone(m, best))
			}
		}
	}
	if several < 80 {
		t.Errorf("of the drawn ones %d have several shortest ways: too few", several)
	}
}

// 19.2: as many places as there may be, all alike, as far as may be.
func TestRoundOfMany(t *testing.T) {
	for n := 2; n <= mostPlaces; n++ {
		for _, far := range []int{0, 1, api.MaxTime} {
			m := flat(n, far)
			round(t, m, upTo(n), n*far)
			joins(t, m, (n-1)*far)
			near(t, m, upTo(n))
			better(t, m, upTo(n), upTo(n))
		}
	}
}

// 19.2: Tree by hand.
func TestTree(t *testing.T) {
	for _, c := range []struct {
		m    string
		want int
	}{
		{"", 0}, {"0", 0}, {"7", 0}, {"0 1; 2 0", 1}, {"0 2; 1 0", 1}, {"9 5; 5 9", 5}, {"~ ~; ~ ~", api.MaxTime},
		{four, 4}, {ring, 3}, {"0 9 1; 1 0 9; 9 1 0", 2}, {"0 5 5; 5 0 5; 5 5 0", 10}, {"0 0 0; 0 0 0; 0 0 0", 0},
		// A star around 1, and a row 2, 0, 3, 1.
		{"0 1 9 9; 9 0 9 1; 9 1 0 9; 9 9 9 0", 3}, {"0 7 2 9; 9 0 8 3; 9 9 0 7; 4 9 7 0", 9},
	} {
		joins(t, plan(t, c.m), c.want)
	}
}

// leastTree is the least length of all trees over so many places, each told by
// a row of two numbers less (Prüfer): a place is joined to the others once more
// than it stands there.
func leastTree(m trip.Map) int {
	n := len(m)
	best := -1
	for code := range power(n, n-2) {
		row := make([]int, n-2)
		joints := slices.Repeat([]int{1}, n)
		for i := range row {
			row[i], code = code%n, code/n
			joints[row[i]]++
		}
		sum := 0
		for _, at := range row {
			leaf := slices.Index(joints, 1)
			sum += min(m[leaf][at], m[at][leaf])
			joints[leaf]--
			joints[at]--
		}
		a := slices.Index(joints, 1)
		b := a + 1 + slices.Index(joints[a+1:], 1)
		if sum += min(m[a][b], m[b][a]); best < 0 || sum < best {
			best = sum
		}
	}
	return best
}

// power is a number, so many times by itself.
func power(n, times int) int {
	out := 1
	for range times {
		out *= n
	}
	return out
}

// 19.2: Tree against all trees.
func TestTreeDrawn(t *testing.T) {
	die := rand.New(rand.NewSource(6))
	for n := 2; n <= 7; n++ {
		for range []int{2: 10, 3: 40, 4: 60, 5: 60, 6: 30, 7: 8}[n] {
			m := drawn(die, n, far(die))
			joins(t, m, leastTree(m))
		}
	}
}

// 19.2: of as many places as there may be: a tree of short ways, each one way
// alone, and nothing else that is short.
func TestTreeOfMany(t *testing.T) {
	die := rand.New(rand.NewSource(7))
	for range 60 {
		m := flat(mostPlaces, 1000)
		row, sum := die.Perm(mostPlaces), 0
		for i := 1; i < len(row); i++ {
			a, b := row[i], row[die.Intn(i)]
			if die.Intn(2) == 0 {
				a, b = b, a
			}
			m[a][b] = i
			sum += i
		}
		joins(t, m, sum)
	}
}

// 19.2: Near by hand.
func TestNear(t *testing.T) {
	for _, c := range []struct{ m, way string }{
		{"", ""}, {"0", "0"}, {"7", "0"}, {"0 9; 9 0", "0 1"}, {four, "0 1 2 3"}, {ring, "0 1 2 3"}, {"0 1 2; 1 0 9; 9 1 0", "0 1 2"},
		{"0 2 1; 1 0 1; 1 1 0", "0 2 1"},
		// Of like ones the first; how far back is no matter.
		{"0 1 1; 1 0 1; 1 1 0", "0 1 2"}, {"0 2 1 1; 1 0 1 1; 1 1 0 1; 1 1 1 0", "0 2 1 3"}, {"0 1 2; 9 0 9; 0 0 0", "0 1 2"},
		// From the place where one is, not from 0.
		{"0 1 2 3; 1 0 5 4; 1 1 0 1; 1 1 1 0", "0 1 3 2"}, {"0 3 2 1; 1 0 0 0; 9 9 0 0; 9 8 9 0", "0 3 1 2"},
		{"0 ~ ~; ~ 0 ~; ~ ~ 0", "0 1 2"}, {"5 ~ 5; 0 0 0; 0 4 0", "0 2 1"},
	} {
		near(t, plan(t, c.m), numbers(t, c.way))
	}
}

// 19.2: Near of what looks drawn: of those that were not there yet none is
// nearer than the next one, and none ahead of it as near.
func TestNearDrawn(t *testing.T) {
	die := rand.New(rand.NewSource(8))
	for i := range 300 {
		n := 1 + i%mostPlaces
		m := drawn(die, n, far(die))
		way, err := trip.Near(m)
		says(t, err, api.OK, m)
		if len(way) != n || way[0] != 0 {
			t.Errorf("%v: %v", m, way)
			continue
		}
		for at := 1; at < n; at++ {
			row, next := m[way[at-1]], way[at]
			if slices.Contains(way[:at], next) {
				t.Errorf("%v: %v: %d comes again", m, way, next)
			}
			for k, far := range row {
				if !slices.Contains(way[:at], k) && (far < row[next] || far == row[next] && k < next) {
					t.Errorf("%v: %v: %d is ahead of %d", m, way, k, next)
				}
			}
		}
	}
}
