package tree_test

import (
	"math"
	"math/rand"
	"slices"
	"testing"

	"foresight/api"
	"foresight/tree"
)

// 20.1: what may be: 1 to MaxJobs places, each edge from 0 to MaxTime long.
func TestCheck(t *testing.T) {
	die := rand.New(rand.NewSource(1))
	for places := 1; places <= api.MaxJobs; places++ {
		for _, long := range []int{0, 1, api.MaxTime} {
			says(t, tree.Check(places, row(places, long)), api.OK, places, long)
			says(t, tree.Check(places, star(places, places-1, long)), api.OK, places, long)
			says(t, tree.Check(places, drawn(die, places, 0, long)), api.OK, places, long)
		}
	}
	says(t, tree.Check(1, nil), api.OK)
	says(t, tree.Check(1, []tree.Edge{}), api.OK)
}

// 20.1: how many places there may be, whatever else is wrong.
func TestCheckHowMany(t *testing.T) {
	for _, places := range []int{0, -1, math.MinInt, api.MaxJobs + 1, 1000, math.MaxInt} {
		for _, l := range [][]tree.Edge{nil, row(2, 1), row(api.MaxJobs+1, 1), row(1000, 1), edges(0, 0, -1), edges(-1, 5, 1)} {
			refused(t, places, l, api.ErrLimit, places, len(l))
		}
	}
}

// 20.1: one edge less than places, whatever they are.
func TestCheckForm(t *testing.T) {
	for _, places := range []int{1, 2, 3, 7, api.MaxJobs} {
		for _, many := range []int{0, places - 2, places, places + 1, 1000} {
			if many == places-1 || many < 0 {
				continue
			}
			for _, e := range edges(0, 0, 1, -1, 0, 1, 0, places, 1, 0, 0, -1) {
				refused(t, places, slices.Repeat([]tree.Edge{e}, many), api.ErrForm, places, many)
			}
			refused(t, places, row(many+1, 1), api.ErrForm, places, many)
		}
	}
}

// 20.1: each wrong number of an edge, at each place, ahead of what can't be
// come to.
func TestCheckRange(t *testing.T) {
	for _, places := range []int{2, 3, 7, api.MaxJobs} {
		for at := range places - 1 {
			for _, wrong := range []int{-1, math.MinInt, math.MaxInt} {
				for _, e := range edges(wrong, 0, 1, 0, wrong, 1, 0, 1, wrong, wrong, wrong, 1, places, 0, 1, 0, places, 1, 0, 1, api.MaxTime+1) {
					l := row(places, 1)
					l[at] = e
					refused(t, places, l, api.ErrRange, places, at, e)
					if places < 7 || at%20 == 0 {
						l = slices.Repeat(edges(0, 0, 1), places-1)
						l[at] = e
						refused(t, places, l, api.ErrRange, "apart", places, at, e)
					}
				}
			}
		}
	}
}

// 20.1: what can't be come to, for an edge from a place to itself, or for two
// ways to one place.
func TestCheckNone(t *testing.T) {
	for _, c := range []struct {
		places int
		l      []tree.Edge
	}{
		{2, edges(0, 0, 1)}, {2, edges(1, 1, 1)}, {2, edges(1, 1, 0)},
		{3, edges(0, 1, 1, 0, 1, 1)}, {3, edges(0, 1, 1, 1, 0, 2)}, {3, edges(1, 2, 1, 2, 1, 1)}, {3, edges(0, 1, 1, 2, 2, 1)}, {3, edges(2, 2, 1, 0, 1, 1)},
		{4, edges(0, 1, 1, 1, 2, 1, 2, 0, 1)}, {4, edges(1, 2, 1, 2, 3, 1, 3, 1, 1)}, {4, edges(0, 1, 0, 2, 3, 0, 3, 2, 0)},
		{5, edges(3, 4, 1, 0, 1, 1, 1, 2, 1, 2, 0, 1)}, {5, edges(0, 4, 1, 1, 2, 1, 3, 2, 1, 3, 1, 1)},
	} {
		refused(t, c.places, c.l, api.ErrNone, c.places, c.l)
	}
	die := rand.New(rand.NewSource(2))
	for places := 2; places <= api.MaxJobs; places++ {
		for range 5 {
			l := drawn(die, places, 0, 5)
			at, other := die.Intn(len(l)), die.Intn(len(l))
			if at != other {
				was := l[at]
				l[at] = l[other]
				refused(t, places, l, api.ErrNone, places, l)
				l[at] = was
			}
			l[at].B = l[at].A
			refused(t, places, l, api.ErrNone, places, l)
		}
	}
}

// 20.1: Far: each place that there is not.
func TestFarRange(t *testing.T) {
	for _, places := range []int{1, 2, 7, api.MaxJobs} {
		for _, at := range []int{-1, places, places + 1, math.MinInt, math.MaxInt} {
			far, err := tree.Far(places, row(places, 1), at)
			says(t, err, api.ErrRange, places, at)
			if far != nil {
				t.Errorf("%v beside an error", far)
			}
		}
	}
}

// 20.2: people at as many places as there are, whatever else is wrong.
func TestPeopleForm(t *testing.T) {
	for _, places := range []int{1, 2, 7, api.MaxJobs} {
		for _, many := range []int{0, places - 1, places + 1, 1000} {
			for _, n := range []int{0, 1, -1, crowd + 1} {
				for _, at := range []int{0, places - 1, -1, places} {
					refusedPeople(t, places, row(places, 1), slices.Repeat([]int{n}, many), at, true, api.ErrForm, places, many, n, at)
				}
			}
		}
	}
}

// 20.2: each wrong number of people, at each place, ahead of the place that is
// asked of.
func TestPeopleRange(t *testing.T) {
	for _, places := range []int{1, 2, 7, api.MaxJobs} {
		for place := range places {
			for _, wrong := range []int{-1, crowd + 1, math.MinInt, math.MaxInt} {
				people := slices.Repeat([]int{crowd}, places)
				people[place] = wrong
				for _, at := range []int{0, place, -1, places} {
					refusedPeople(t, places, row(places, 1), people, at, true, api.ErrRange, places, place, wrong, at)
				}
			}
		}
	}
}

// 20.2: each place that there is not.
func TestPlaceRange(t *testing.T) {
	for _, places := range []int{1, 2, 7, api.MaxJobs} {
		for _, n := range []int{0, crowd} {
			people := slices.Repeat([]int{n}, places)
			for _, at := range []int{-1, places, places + 1, math.MinInt, math.MaxInt} {
				refusedPeople(t, places, row(places, 1), people, at, false, api.ErrRange, places, n, at)
			}
			_, _, err := tree.Middle(places, row(places, 1), people)
			says(t, err, api.OK, places, n)
		}
	}
}
