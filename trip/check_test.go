package trip_test

import (
	"math"
	"math/rand"
	"slices"
	"testing"

	"foresight/api"
	"foresight/trip"
)

// wrongFar is numbers that say how far nothing is.
func wrongFar() []int { return []int{-1, math.MinInt, api.MaxTime + 1, math.MaxInt} }

// 19.1: what may be: up to 9 places, from 0 to MaxTime from each other, and
// each from itself.
func TestCheck(t *testing.T) {
	die := rand.New(rand.NewSource(1))
	says(t, trip.Check(nil), api.OK, "nil")
	says(t, trip.Check(trip.Map{}), api.OK, "no place")
	for n := range mostPlaces + 1 {
		for _, far := range []int{0, 1, api.MaxTime} {
			says(t, trip.Check(flat(n, far)), api.OK, n, far)
			says(t, trip.Check(drawn(die, n, far)), api.OK, n, "drawn", far)
		}
	}
}

// 19.1: how many places there may be, whatever else is wrong.
func TestCheckHowMany(t *testing.T) {
	for _, n := range []int{mostPlaces + 1, mostPlaces + 2, 100} {
		refused(t, flat(n, 1), api.ErrLimit, n, "places")
		refused(t, flat(n, -1), api.ErrLimit, n, "places below 0")
		refused(t, make(trip.Map, n), api.ErrLimit, n, "empty rows")
	}
}

// 19.1: each row has as many numbers as there are rows, whatever they are.
func TestCheckForm(t *testing.T) {
	for n := 1; n <= mostPlaces; n++ {
		for place := range n {
			for _, length := range []int{0, n - 1, n + 1, 2 * n, 1000} {
				if length == n {
					continue
				}
				for _, far := range []int{1, -1, api.MaxTime + 1} {
					m := flat(n, 1)
					m[place] = slices.Repeat([]int{far}, length)
					refused(t, m, api.ErrForm, n, place, length, far)
				}
			}
		}
	}
}

// 19.1: each wrong number, at each place, also how far one is from itself.
func TestCheckRange(t *testing.T) {
	for n := 1; n <= mostPlaces; n++ {
		for i := range n {
			for k := range n {
				for _, far := range wrongFar() {
					m := flat(n, 1)
					m[i][k] = far
					says(t, trip.Check(m), api.ErrRange, n, i, k, far)
					if i%4 == k%4 {
						refused(t, m, api.ErrRange, n, i, k, far)
					}
				}
			}
		}
	}
}

// 19.1: row by row: all of one is ahead of the next one's.
func TestCheckTwoWrong(t *testing.T) {
	for n := 2; n <= mostPlaces; n++ {
		for i := range n {
			for k := range n {
				if i == k {
					continue
				}
				m := flat(n, 1)
				m[i] = m[i][1:]
				m[k][n-1] = -1
				want := api.ErrForm
				if k < i {
					want = api.ErrRange
				}
				refused(t, m, want, n, i, k)
			}
		}
	}
}

// 19.1: how long a way may be of which one asks, ahead of where it goes.
func TestLongLimit(t *testing.T) {
	for _, n := range []int{1, 2, mostPlaces} {
		goes(t, flat(n, 3), make([]int, mostGone), 3*mostGone)
		goes(t, flat(n, api.MaxTime), slices.Repeat([]int{n - 1}, mostGone), mostGone*api.MaxTime)
		for _, length := range []int{mostGone + 1, mostGone + 2, 5000} {
			for _, place := range []int{0, -1, n} {
				refusedLong(t, flat(n, 3), slices.Repeat([]int{place}, length), api.ErrLimit, n, length)
				refusedLong(t, nil, slices.Repeat([]int{place}, length), api.ErrLimit, "no place", length)
			}
		}
	}
}

// 19.1: each place that there is not, at each place of a way.
func TestLongRange(t *testing.T) {
	for n := range mostPlaces + 1 {
		for _, wrong := range []int{-1, n, n + 1, mostPlaces + 1, math.MinInt, math.MaxInt} {
			refusedLong(t, flat(n, 1), []int{wrong}, api.ErrRange, n)
			if n == 0 {
				continue
			}
			for _, length := range []int{2, 3, mostGone} {
				for place := range length {
					way := make([]int, length)
					way[place] = wrong
					refusedLong(t, flat(n, 1), way, api.ErrRange, n)
				}
			}
		}
	}
}

// 19.3: what Order says, by whatever map, ahead of whether it is the same both
// ways.
func TestBetterOrder(t *testing.T) {
	die := rand.New(rand.NewSource(2))
	for n := range mostPlaces + 1 {
		for _, m := range []trip.Map{flat(n, 1), drawn(die, n, 1000)} {
			for length := range mostPlaces + 3 {
				if length != n {
					refusedBetter(t, m, upTo(length), api.ErrForm, n)
					refusedBetter(t, m, slices.Repeat([]int{-1}, length), api.ErrForm, n)
				}
			}
			for place := range n {
				for _, wrong := range []int{-1, n, math.MinInt, math.MaxInt} {
					way := upTo(n)
					way[place] = wrong
					refusedBetter(t, m, way, api.ErrRange, n)
				}
				for _, other := range upTo(n)[:place] {
					way := upTo(n)
					way[place] = other
					refusedBetter(t, m, way, api.ErrMany, n)
					// Number by number: what is wrong behind it is told later.
					if place < n-1 {
						way[n-1] = n
						refusedBetter(t, m, way, api.ErrMany, n)
					}
				}
			}
		}
	}
}

// 19.3: each two places that are not as far there as back; how far one is from
// itself is no matter.
func TestBetterForm(t *testing.T) {
	die := rand.New(rand.NewSource(3))
	for n := 1; n <= mostPlaces; n++ {
		for i := range n {
			for k := range n {
				for _, far := range []int{0, 6, 8, api.MaxTime} {
					m := flat(n, 7)
					m[i][k] = far
					if i == k {
						_, err := trip.Better(m, die.Perm(n))
						says(t, err, api.OK, m)
						continue
					}
					refusedBetter(t, m, die.Perm(n), api.ErrForm, m)
				}
			}
		}
	}
}

// 19.4: as many wants as places, whatever they are.
func TestSavingsForm(t *testing.T) {
	for n := range mostPlaces + 1 {
		for length := range mostPlaces + 3 {
			if length == n {
				continue
			}
			for _, want := range []int{0, 5, -1, api.MaxTime + 1} {
				for _, room := range []int{-1, 0, 4, 5} {
					refusedSavings(t, flat(n, 1), slices.Repeat([]int{want}, length), room, api.ErrForm, n)
				}
			}
		}
	}
}

// 19.4: each wrong want, at each place, 0 too; and each that has no room, but
// at 0.
func TestSavingsWants(t *testing.T) {
	for n := 1; n <= mostPlaces; n++ {
		for place := range n {
			wants := slices.Repeat([]int{1}, n)
			for _, wrong := range wrongFar() {
				wants[place] = wrong
				for _, room := range []int{1, math.MaxInt} {
					refusedSavings(t, flat(n, 1), wants, room, api.ErrRange, n)
				}
			}
			for _, much := range []int{2, 3, api.MaxTime} {
				wants[place] = much
				if place == 0 {
					_, err := trip.Savings(flat(n, 1), wants, much-1)
					says(t, err, api.OK, n, wants)
					continue
				}
				refusedSavings(t, flat(n, 1), wants, much-1, api.ErrMany, n)
				_, err := trip.Savings(flat(n, 1), wants, much)
				says(t, err, api.OK, n, wants)
			}
		}
	}
}

// 19.4: with room below 0 there is none, even for nothing; without places but
// 0 none is asked for.
func TestSavingsNoRoom(t *testing.T) {
	for n := range mostPlaces + 1 {
		for _, room := range []int{-1, -api.MaxTime, math.MinInt} {
			if n < 2 {
				toured(t, flat(n, 1), make([]int, n), room, nil)
				continue
			}
			refusedSavings(t, flat(n, 1), make([]int, n), room, api.ErrMany, n)
		}
		_, err := trip.Savings(flat(n, 1), make([]int, n), 0)
		says(t, err, api.OK, n)
	}
}

// 19.4: place by place: all of one is ahead of the next one's; of one, that it
// is too great ahead of the room.
func TestSavingsTwoWrong(t *testing.T) {
	for n := 3; n <= mostPlaces; n++ {
		for i := range n {
			for k := 1; k < n; k++ {
				if i == k {
					continue
				}
				for _, wrong := range wrongFar() {
					wants := slices.Repeat([]int{1}, n)
					wants[i], wants[k] = wrong, 5
					want := api.ErrRange
					if k < i {
						want = api.ErrMany
					}
					refusedSavings(t, flat(n, 1), wants, 4, want, n)
				}
			}
		}
	}
}
