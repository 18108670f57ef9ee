package trip_test

import (
	"math/rand"
	"slices"
	"strconv"
	"strings"
	"testing"

	"foresight/api"
	"foresight/trip"
)

// The document's bounds: on places, and on a way whose length is asked.
const (
	mostPlaces = 9
	mostGone   = 100
)

// numbers reads a list, apart by spaces; a tilde is MaxTime.
func numbers(t *testing.T, text string) []int {
	t.Helper()
	var out []int
	for word := range strings.FieldsSeq(text) {
		n, err := strconv.Atoi(strings.ReplaceAll(word, "~", strconv.Itoa(api.MaxTime)))
		if err != nil {
			t.Fatalf("%q: %v", text, err)
		}
		out = append(out, n)
	}
	return out
}

// plan reads rows, apart by semicolons; nothing is no row.
func plan(t *testing.T, text string) trip.Map {
	t.Helper()
	var out trip.Map
	if text == "" {
		return out
	}
	for row := range strings.SplitSeq(text, ";") {
		out = append(out, numbers(t, row))
	}
	return out
}

// copied is a map that shares nothing with another one.
func copied(m trip.Map) trip.Map {
	var out trip.Map
	for _, row := range m {
		out = append(out, slices.Clone(row))
	}
	return out
}

// flat is so many places, each as far from each.
func flat(n, far int) trip.Map {
	var out trip.Map
	for range n {
		out = append(out, slices.Repeat([]int{far}, n))
	}
	return out
}

// drawn is so many places that look drawn, each at most so far, also from
// itself.
func drawn(die *rand.Rand, n, far int) trip.Map {
	out := flat(n, 0)
	for _, row := range out {
		for k := range row {
			row[k] = die.Intn(far + 1)
		}
	}
	return out
}

// even is a map that is the same both ways, and no farther than another one.
func even(m trip.Map) trip.Map {
	out := copied(m)
	for i, row := range m {
		for k := range row {
			out[i][k] = min(m[i][k], m[k][i])
		}
	}
	return out
}

// far is how far places that look drawn may be: often so little that many are
// alike.
func far(die *rand.Rand) int { return []int{1, 2, 5, 30, api.MaxTime}[die.Intn(5)] }

// upTo is 0, 1, .. below n.
func upTo(n int) []int {
	out := make([]int, n)
	for i := range out {
		out[i] = i
	}
	return out
}

// rows is all rows of so many numbers below n, each once, that begin so, in
// their order.
func rows(n int, begin []int) [][]int {
	if len(begin) == n {
		return [][]int{begin}
	}
	var out [][]int
	for k := range n {
		if !slices.Contains(begin, k) {
			out = append(out, rows(n, append(slices.Clone(begin), k))...)
		}
	}
	return out
}

// gone is Long by the words.
func gone(m trip.Map, way []int) int {
	if len(way) < 2 {
		return 0
	}
	sum := m[way[len(way)-1]][way[0]]
	for i := 1; i < len(way); i++ {
		sum += m[way[i-1]][way[i]]
	}
	return sum
}

// says fails unless an error is that Errno itself, as no place belongs to it.
func says(t *testing.T, err error, want api.Errno, what ...any) {
	t.Helper()
	if want == api.OK && err == nil {
		return
	}
	if err != error(want) {
		t.Errorf("%v: error %v, want %v", what, err, want)
	}
}

// is fails unless a number is as wanted, with no error.
func is(t *testing.T, got int, err error, want int, what ...any) {
	t.Helper()
	if err != nil || got != want {
		t.Errorf("%v: %d, error %v, want %d", what, got, err, want)
	}
}

// are fails unless a list is as wanted, with no error.
func are(t *testing.T, got []int, err error, want []int, what ...any) {
	t.Helper()
	if err != nil || !slices.Equal(got, want) {
		t.Errorf("%v: %v, error %v, want %v", what, got, err, want)
	}
}

// goes fails unless Long is as wanted.
func goes(t *testing.T, m trip.Map, way []int, want int) {
	t.Helper()
	got, err := trip.Long(m, way)
	is(t, got, err, want, "Long", m, way)
}

// round fails unless Round is as wanted.
func round(t *testing.T, m trip.Map, way []int, long int) {
	t.Helper()
	got, n, err := trip.Round(m)
	are(t, got, err, way, "Round", m)
	is(t, n, err, long, "Round", m)
}

// joins fails unless Tree is as wanted.
func joins(t *testing.T, m trip.Map, want int) {
	t.Helper()
	got, err := trip.Tree(m)
	is(t, got, err, want, "Tree", m)
}

// near fails unless Near is as wanted.
func near(t *testing.T, m trip.Map, want []int) {
	t.Helper()
	got, err := trip.Near(m)
	are(t, got, err, want, "Near", m)
}

// better fails unless Better is as wanted.
func better(t *testing.T, m trip.Map, way, want []int) {
	t.Helper()
	got, err := trip.Better(m, way)
	are(t, got, err, want, "Better", m, way)
}

// toured fails unless Savings are as wanted.
func toured(t *testing.T, m trip.Map, wants []int, room int, want []trip.Tour) {
	t.Helper()
	got, err := trip.Savings(m, wants, room)
	like := slices.EqualFunc(got, want, func(a, b trip.Tour) bool { return slices.Equal(a, b) })
	if err != nil || !like {
		t.Errorf("Savings of %v, %v, %d: %v, error %v, want %v", m, wants, room, got, err, want)
	}
}

// refusedLong fails unless Long answers an error, and beside it 0.
func refusedLong(t *testing.T, m trip.Map, way []int, want api.Errno, what ...any) {
	t.Helper()
	got, err := trip.Long(m, way)
	says(t, err, want, "Long", what, way)
	if got != 0 {
		t.Errorf("Long %v: %d beside an error", what, got)
	}
}

// refusedBetter fails unless Better answers an error, and beside it nothing.
func refusedBetter(t *testing.T, m trip.Map, way []int, want api.Errno, what ...any) {
	t.Helper()
	got, err := trip.Better(m, way)
	says(t, err, want, "Better", what, way)
	if got != nil {
		t.Errorf("Better %v: %v beside an error", what, got)
	}
}

// refusedSavings fails unless Savings answers an error, and beside it nothing.
func refusedSavings(t *testing.T, m trip.Map, wants []int, room int, want api.Errno, what ...any) {
	t.Helper()
	got, err := trip.Savings(m, wants, room)
	says(t, err, want, "Savings", what, wants, room)
	if got != nil {
		t.Errorf("Savings %v: %v beside an error", what, got)
	}
}

// refused fails unless all say one thing of a map that may not be, whatever
// else is wrong.
func refused(t *testing.T, m trip.Map, want api.Errno, what ...any) {
	t.Helper()
	says(t, trip.Check(m), want, "Check", what)
	way, n, err := trip.Round(m)
	says(t, err, want, "Round", what)
	if way != nil || n != 0 {
		t.Errorf("Round %v: %v and %d beside an error", what, way, n)
	}
	n, err = trip.Tree(m)
	says(t, err, want, "Tree", what)
	if n != 0 {
		t.Errorf("Tree %v: %d beside an error", what, n)
	}
	way, err = trip.Near(m)
	says(t, err, want, "Near", what)
	if way != nil {
		t.Errorf("Near %v: %v beside an error", what, way)
	}
	for _, row := range [][]int{nil, upTo(len(m)), {0}, {-1}, {0, 0}, make([]int, len(m)), make([]int, mostGone+1)} {
		refusedLong(t, m, row, want, what)
		refusedBetter(t, m, row, want, what)
		for _, room := range []int{-1, 0, 100} {
			refusedSavings(t, m, row, room, want, what)
		}
	}
}
