package roads_test

import (
	"math"
	"math/rand"
	"slices"
	"testing"

	"foresight/api"
	"foresight/ratio"
	"foresight/roads"
)

// whole is so many like whole numbers.
func whole(n, number int) []ratio.Ratio { return slices.Repeat([]ratio.Ratio{ratio.Whole(number)}, n) }

// refused fails unless all say one thing of roads beside each other that may
// not be, whatever else is wrong.
func refused(t *testing.T, l []roads.Road, want api.Errno, what ...any) {
	t.Helper()
	says(t, roads.Check(l), want, "Check", what)
	for _, demand := range []int{-1, 0, 1} {
		refusedDemand(t, l, ratio.Whole(demand), want, what)
	}
	for _, n := range []int{0, 1, len(l), len(l) + 1} {
		refusedCost(t, l, whole(n, 1), want, what)
		refusedCost(t, l, whole(n, -1), want, what)
	}
}

// 18.1: what may be: 1 to MaxMany roads, 0 free among them.
func TestCheck(t *testing.T) {
	die := rand.New(rand.NewSource(1))
	for n := 1; n <= api.MaxMany; n++ {
		says(t, roads.Check(alike(n)), api.OK, n)
		for range 10 {
			l := drawn(die, n)
			says(t, roads.Check(l), api.OK, written(l))
			says(t, roads.Check(long(t, l)), api.OK, "long", written(l))
		}
	}
	for _, text := range []string{"0 1", "0 ~", "~ 1", "1000000000000 1000000000000", "0 1; 0 1"} {
		says(t, roads.Check(some(t, text)), api.OK, text)
	}
}

// 18.1: how many roads there may be, whatever else is wrong.
func TestCheckHowMany(t *testing.T) {
	refused(t, nil, api.ErrLimit, "nil")
	refused(t, []roads.Road{}, api.ErrLimit, "no road")
	for _, n := range []int{api.MaxMany + 1, api.MaxMany + 2, 200} {
		refused(t, alike(n), api.ErrLimit, n, "roads")
		refused(t, make([]roads.Road, n), api.ErrLimit, n, "roads without slope")
		refused(t, slices.Repeat(some(t, "-1 -1"), n), api.ErrLimit, n, "roads below 0")
	}
}

// 18.1: each wrong road, at each place.
func TestCheckWrongRoad(t *testing.T) {
	for n := 1; n <= api.MaxMany; n++ {
		for place := range n {
			for _, text := range []string{"-1 1", "-~ 1", "1 0", "0 0", "1 -1", "1 -~", "-1 -1", "-1 0"} {
				l := alike(n)
				l[place] = some(t, text)[0]
				refused(t, l, api.ErrArg, n, "roads,", place, text)
			}
		}
	}
}

// 18.1: less than nothing can't go.
func TestDemandWrong(t *testing.T) {
	for _, n := range []int{1, 2, api.MaxMany} {
		for _, demand := range []string{"-1", "-~", "-1000000000000000000000"} {
			refusedDemand(t, alike(n), one(t, demand), api.ErrArg, n)
		}
	}
}

// 18.1: Cost: as many as roads, ahead of what is below 0, at each place.
func TestCostWrong(t *testing.T) {
	for n := 1; n <= api.MaxMany; n++ {
		for length := range api.MaxMany + 3 {
			if length != n {
				refusedCost(t, alike(n), whole(length, 1), api.ErrForm, n)
				refusedCost(t, alike(n), whole(length, -1), api.ErrForm, n)
			}
		}
		for place := range n {
			for _, less := range []string{"-1", "-~"} {
				x := whole(n, 1)
				x[place] = one(t, less)
				refusedCost(t, alike(n), x, api.ErrArg, n)
			}
		}
	}
	refusedCost(t, alike(1), nil, api.ErrForm)
}

// wrongNumbers is numbers that none of so many roads has.
func wrongNumbers(n int) []int {
	return []int{-1, n, n + 1, -n - 1, math.MinInt, math.MaxInt}
}

// wrongWays is what may be wrong with ways over two roads.
func wrongWays() [][]roads.Way {
	return [][]roads.Way{
		nil,
		{{0, 1}},
		{{0, 2}, {1}},
		{{0}, {-1}},
		{slices.Repeat(roads.Way{0}, api.MaxMany+1), {1}},
		slices.Repeat([]roads.Way{{5}}, api.MaxMany+1),
	}
}

// 18.2: no road is below 0, ahead of all else; also of more than there may be.
func TestTimesRoadsWrong(t *testing.T) {
	for _, n := range []int{1, 2, api.MaxMany, api.MaxMany + 1, 50} {
		for place := range n {
			for _, text := range []string{"-1 1", "-~ 1", "1 -1", "0 -~", "-1 -1", "-1 0"} {
				l := alike(n)
				l[place] = some(t, text)[0]
				refusedWays(t, l, nil, nil, api.ErrArg, n, place, text)
				if place > 0 && place < n-1 {
					continue
				}
				for _, ways := range wrongWays() {
					for _, flows := range [][]ratio.Ratio{whole(2, 1), whole(2, -1), whole(api.MaxMany+1, 1)} {
						refusedWays(t, l, ways, flows, api.ErrArg, n, place, text, ways, ratio.Words(flows))
					}
				}
			}
		}
	}
}

// 18.2: how many roads, and ways, there may be, ahead of how many flows.
func TestTimesHowMany(t *testing.T) {
	for _, n := range []int{api.MaxMany + 1, api.MaxMany + 2, 100} {
		for _, ways := range wrongWays() {
			for _, flows := range [][]ratio.Ratio{nil, whole(2, 1), whole(2, -1), whole(n, 0)} {
				refusedWays(t, alike(n), ways, flows, api.ErrLimit, n, "roads", ways)
			}
		}
		for _, way := range []roads.Way{nil, {0}, {2}, slices.Repeat(roads.Way{0}, api.MaxMany+1)} {
			for _, flows := range [][]ratio.Ratio{nil, whole(n, 1), whole(n, -1), whole(n+1, 1)} {
				refusedWays(t, alike(2), slices.Repeat([]roads.Way{way}, n), flows, api.ErrLimit, n, "ways", way)
				refusedWays(t, nil, slices.Repeat([]roads.Way{way}, n), flows, api.ErrLimit, n, "ways, no road", way)
			}
		}
	}
}

// 18.2: as many flows as ways, ahead of what is wrong with a way.
func TestTimesFlowsWrong(t *testing.T) {
	for n := range api.MaxMany + 1 {
		for length := range api.MaxMany + 3 {
			if length == n {
				continue
			}
			for _, way := range []roads.Way{nil, {0}, {2}, slices.Repeat(roads.Way{0}, api.MaxMany+1)} {
				for _, flow := range []int{0, 1, -1} {
					refusedWays(t, alike(2), slices.Repeat([]roads.Way{way}, n), whole(length, flow), api.ErrForm, n, length, way, flow)
				}
			}
		}
	}
}

// 18.2: each wrong flow, and each wrong number, at each place.
func TestTimesWrongWay(t *testing.T) {
	for n := 1; n <= api.MaxMany; n++ {
		for place := range n {
			for _, less := range []string{"-1", "-~"} {
				flows := whole(n, 0)
				flows[place] = one(t, less)
				refusedWays(t, alike(2), slices.Repeat([]roads.Way{{0, 1}}, n), flows, api.ErrArg, n, place, less)
			}
			for _, count := range []int{0, 1, 3, api.MaxMany} {
				for _, number := range wrongNumbers(count) {
					ways := make([]roads.Way, n)
					ways[place] = roads.Way{number}
					refusedWays(t, alike(count), ways, whole(n, 0), api.ErrRange, n, place, count, number)
				}
			}
		}
	}
	for length := 1; length <= api.MaxMany+2; length++ {
		for place := range length {
			for _, number := range wrongNumbers(3) {
				way := slices.Repeat(roads.Way{2}, length)
				way[place] = number
				// ErrRange is ahead of how long a way is.
				refusedWays(t, alike(3), []roads.Way{way}, whole(1, 1), api.ErrRange, length, place, number)
			}
		}
	}
}

// 18.2: of one way its flow is ahead of its roads; all of one way is ahead of
// the next one's.
func TestTimesTwoWrong(t *testing.T) {
	flows := list(t, "1 -1 0")
	refusedWays(t, alike(2), []roads.Way{{0}, {5}, {1}}, flows, api.ErrArg, "one way, twice")
	refusedWays(t, alike(2), []roads.Way{{5}, {0}, {1}}, flows, api.ErrRange, "a number ahead of a flow")
	refusedWays(t, alike(2), []roads.Way{{0}, {1}, {5}}, flows, api.ErrArg, "a flow ahead of a number")
}

// 18.2: how many roads a way goes, when all ways are looked through.
func TestTimesLongWay(t *testing.T) {
	for n := 1; n <= api.MaxMany; n++ {
		for place := range n {
			for _, length := range []int{api.MaxMany + 1, api.MaxMany + 2, 1000} {
				ways := make([]roads.Way, n)
				ways[place] = slices.Repeat(roads.Way{1}, length)
				refusedWays(t, alike(2), ways, whole(n, 0), api.ErrLimit, n, place, length)
			}
		}
	}
	ways := []roads.Way{{0}, slices.Repeat(roads.Way{1}, api.MaxMany+1), {0}}
	refusedWays(t, alike(2), ways, list(t, "1 1 -1"), api.ErrArg, "a flow behind it")
	refusedWays(t, alike(2), ways, list(t, "1 -1 1"), api.ErrArg, "its own flow")
	ways[2] = roads.Way{2}
	refusedWays(t, alike(2), ways, list(t, "1 1 1"), api.ErrRange, "a number behind it")
}
