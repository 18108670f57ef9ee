package trip_test

import (
	"cmp"
	"math"
	"math/rand"
	"slices"
	"testing"

	"foresight/api"
	"foresight/trip"
)

// 19.3: Better by hand.
func TestBetter(t *testing.T) {
	// Places on a line, at 0, 1, 2, 3, 4: each round way is 8 at the least.
	const line = "0 1 2 3 4; 1 0 1 2 3; 2 1 0 1 2; 3 2 1 0 1; 4 3 2 1 0"
	for _, c := range []struct{ m, way, want string }{
		{"", "", ""}, {"7", "0", "0"}, {"0 3; 3 0", "0 1", "0 1"}, {"0 3; 3 0", "1 0", "1 0"},
		{"0 1 9; 1 0 4; 9 4 0", "2 0 1", "2 0 1"}, {"5 1 9; 1 6 4; 9 4 7", "1 0 2", "1 0 2"},
		{four, "0 1 2 3", "0 1 2 3"}, {four, "0 2 1 3", "0 1 2 3"}, {four, "3 1 0 2", "3 0 1 2"}, {four, "1 3 2 0", "1 2 3 0"},
		// Where nothing is won, nothing is turned over.
		{"0 0 0 0; 0 0 0 0; 0 0 0 0; 0 0 0 0", "3 1 0 2", "3 1 0 2"}, {"0 ~ ~ ~; ~ 0 ~ ~; ~ ~ 0 ~; ~ ~ ~ 0", "3 1 0 2", "3 1 0 2"},
		{line, "0 1 2 3 4", "0 1 2 3 4"}, {line, "0 2 4 3 1", "0 2 4 3 1"},
		// 3 1 turned over, and it is 8, not 12; 0 3, and it is 10, then 3 0 1, and it is 8.
		{line, "0 3 1 4 2", "0 1 3 4 2"}, {line, "2 0 3 1 4", "2 1 0 3 4"},
	} {
		better(t, plan(t, c.m), numbers(t, c.way), numbers(t, c.want))
	}
}

// turned is Better by the words: each piece is turned over, and the whole way
// gone; the first that is shorter is taken, and all begins anew.
func turned(m trip.Map, way []int) ([]int, int) {
	row, times := slices.Clone(way), 0
	for i := 1; i < len(row); i++ {
		for k := i + 1; k < len(row); k++ {
			other := slices.Clone(row)
			slices.Reverse(other[i : k+1])
			if gone(m, other) < gone(m, row) {
				row, i, k = other, 0, len(row)
				times++
			}
		}
	}
	return row, times
}

// 19.3: Better of what looks drawn, against the words; no piece of it makes it
// shorter any more, and no shorter one is shorter than Round.
func TestBetterDrawn(t *testing.T) {
	die := rand.New(rand.NewSource(9))
	often := 0
	for i := range 600 {
		n := i % (mostPlaces + 1)
		m := even(drawn(die, n, far(die)))
		way := die.Perm(n)
		want, times := turned(m, way)
		if times > 2 {
			often++
		}
		better(t, m, way, want)
		better(t, m, want, want)
		if _, least, err := trip.Round(m); err != nil || least > gone(m, want) || gone(m, want) > gone(m, way) {
			t.Errorf("%v: %v: %v, %v, at the least %d", m, way, want, err, least)
		}
	}
	if often < 100 {
		t.Errorf("of the drawn ones %d are turned over more than twice: too few", often)
	}
}

// 19.3: all rows of four places that are apart by like numbers.
func TestBetterAll(t *testing.T) {
	for _, text := range []string{four, "0 1 1 2; 1 0 2 1; 1 2 0 1; 2 1 1 0", "0 0 1 1; 0 0 1 1; 1 1 0 0; 1 1 0 0"} {
		m := plan(t, text)
		for _, way := range rows(4, nil) {
			want, _ := turned(m, way)
			better(t, m, way, want)
		}
	}
}

// tours reads lists, each of digits.
func tours(words ...string) []trip.Tour {
	var out []trip.Tour
	for _, word := range words {
		var tour trip.Tour
		for _, digit := range word {
			tour = append(tour, int(digit-'0'))
		}
		out = append(out, tour)
	}
	return out
}

// 19.4: Savings by hand.
func TestSavings(t *testing.T) {
	// 1 and 2 are together, and 3 and 4, each 5 from 0; from here to there 9.
	const pairs = "0 5 5 5 5; 5 0 1 9 9; 5 1 0 9 9; 5 9 9 0 1; 5 9 9 1 0"
	for _, c := range []struct {
		m, wants string
		room     int
		want     []trip.Tour
	}{
		{"", "", 0, nil}, {"7", "3", 0, nil}, {"7", "3", math.MinInt, nil}, {"0 3; 3 0", "0 2", 2, tours("1")}, {"0 3; 3 0", "9 2", 2, tours("1")},
		{pairs, "0 1 1 1 1", 1, tours("1", "2", "3", "4")}, {pairs, "0 1 1 1 1", 2, tours("12", "34")}, {pairs, "0 1 1 1 1", 3, tours("12", "34")},
		// 2 and 3: the saving is 1, by which all four are one.
		{pairs, "0 1 1 1 1", 4, tours("1234")}, {pairs, "0 1 1 1 1", math.MaxInt, tours("1234")}, {pairs, "9 0 0 0 0", 0, tours("1234")},
		// 1 and 2 don't fit, nor do 3 and 4: 1 goes with 3, or with 4, by 1.
		{pairs, "0 2 2 1 3", 3, tours("13", "2", "4")}, {pairs, "0 2 2 3 1", 3, tours("14", "2", "3")}, {pairs, "0 1 2 1 2", 3, tours("12", "34")},
		{pairs, "0 ~ ~ ~ ~", 2 * api.MaxTime, tours("12", "34")}, {pairs, "~ ~ ~ ~ ~", 4*api.MaxTime - 1, tours("12", "34")},
		// A saving of 0, or less, makes no tours one.
		{"0 1 1; 1 0 2; 1 2 0", "0 0 0", 9, tours("1", "2")}, {"0 1 1; 1 0 3; 1 3 0", "0 0 0", 9, tours("1", "2")}, {"0 1 1; 1 0 1; 1 2 0", "0 0 0", 9, tours("12")},
		// The way from 1 to 2, or from 2 to 1, is the shorter one.
		{"0 4 4; 4 0 1; 4 2 0", "0 1 1", 2, tours("12")}, {"0 4 4; 4 0 2; 4 1 0", "0 1 1", 2, tours("21")},
		// To 0 from i, from 0 to k: 1 is far from 0, 2 is near; and the other way round.
		{"0 9 0; 0 0 1; 9 1 0", "0 1 1", 2, tours("21")}, {"0 0 9; 9 0 1; 0 1 0", "0 1 1", 2, tours("12")},
		// How far a place is from itself, and what 0 wants, are no matter.
		{"~ 4 4; 4 ~ 2; 4 1 ~", "~ 1 1", 2, tours("21")},
		// By their first places: 3 1, then 2; not by their numbers.
		{"0 4 4 4; 4 0 9 9; 4 9 0 9; 4 1 9 0", "0 1 1 1", 3, tours("2", "31")},
		// 2 1, and 3 behind it; by 3 2 it would go round.
		{"0 5 5 5; 5 0 9 2; 5 1 0 9; 5 9 3 0", "0 1 1 1", 3, tours("213")},
		// Of like savings by i, then by k: 1 2, 1 3, 2 1, 2 3.
		{"0 5 5 5; 5 0 1 1; 5 1 0 1; 5 1 1 0", "0 1 1 1", 3, tours("123")}, {"0 5 5 5; 5 0 1 1; 5 1 0 1; 5 1 1 0", "0 1 1 1", 2, tours("12", "3")},
		{"0 5 5 5; 5 0 1 1; 5 1 0 1; 5 1 1 0", "0 1 2 1", 2, tours("13", "2")}, {"0 5 5 5; 5 0 1 1; 5 1 0 1; 5 1 1 0", "0 2 1 1", 2, tours("1", "23")},
		// What two tours want together is held against the room, not what two places want.
		{"0 5 5 5; 5 0 1 9; 5 9 0 2; 5 9 9 0", "0 1 1 1", 2, tours("12", "3")},
	} {
		toured(t, plan(t, c.m), numbers(t, c.wants), c.room, c.want)
	}
}

// merged is Savings by the words, where each place knows the number of its
// tour, and the tours lie in a list.
func merged(m trip.Map, wants []int, room int) []trip.Tour {
	type pair struct{ i, k, by int }
	var pairs []pair
	var out []trip.Tour
	for i := 1; i < len(m); i++ {
		out = append(out, trip.Tour{i})
		for k := 1; k < len(m); k++ {
			if i != k {
				pairs = append(pairs, pair{i, k, m[i][0] + m[0][k] - m[i][k]})
			}
		}
	}
	slices.SortFunc(pairs, func(a, b pair) int {
		return cmp.Or(-cmp.Compare(a.by, b.by), cmp.Compare(a.i, b.i), cmp.Compare(a.k, b.k))
	})
	all := func(tour trip.Tour) (sum int) {
		for _, place := range tour {
			sum += wants[place]
		}
		return sum
	}
	for _, p := range pairs {
		one := slices.IndexFunc(out, func(tour trip.Tour) bool { return tour[len(tour)-1] == p.i })
		other := slices.IndexFunc(out, func(tour trip.Tour) bool { return tour[0] == p.k })
		if p.by <= 0 || one < 0 || other < 0 || one == other || all(out[one])+all(out[other]) > room {
			continue
		}
		out[one] = slices.Concat(out[one], out[other])
		out = slices.Delete(out, other, other+1)
	}
	slices.SortFunc(out, func(a, b trip.Tour) int { return slices.Compare(a, b) })
	return out
}

// 19.4: Savings of what looks drawn, against the words, each several times;
// each place but 0 stands in one tour, and each tour has room.
func TestSavingsDrawn(t *testing.T) {
	die := rand.New(rand.NewSource(10))
	kinds := make([]int, mostPlaces)
	for i := range 1500 {
		n := i % (mostPlaces + 1)
		m := drawn(die, n, far(die))
		if i%3 == 0 {
			m = even(m)
		}
		most := 1 + die.Intn(9)
		room := most + die.Intn(4*most)
		wants := make([]int, n)
		for k := range wants {
			wants[k] = die.Intn(most + 1)
		}
		want := merged(m, wants, room)
		kinds[len(want)]++
		for range 5 {
			toured(t, m, wants, room, want)
		}
		var there []int
		for _, tour := range want {
			sum := 0
			for _, place := range tour {
				sum += wants[place]
			}
			if there = append(there, tour...); sum > room {
				t.Errorf("%v, %v, %d: %v wants %d", m, wants, room, tour, sum)
			}
		}
		if slices.Sort(there); n > 0 && !slices.Equal(there, upTo(n)[1:]) {
			t.Errorf("%v, %v, %d: %v", m, wants, room, want)
		}
	}
	for many, times := range kinds[1:5] {
		if times < 50 {
			t.Errorf("of the drawn ones %d have %d tours: too few", times, many+1)
		}
	}
}

// spoil writes into a list, up to the end of its memory.
func spoil(l []int) {
	for i := range l[:cap(l)] {
		l[:cap(l)][i] = 77
	}
}

// P4: what is handed in stays as it is, also behind a list's length; and what
// came out is the caller's, no two tours share any of it.
func TestArgumentsStay(t *testing.T) {
	whole := plan(t, "0 1 4 3 88; 1 0 2 5 88; 4 2 0 1 88; 3 5 1 0 88; 88 88")
	m := slices.Clone(whole)[:4]
	for i := range m {
		m[i] = whole[i][:4]
	}
	way, wants := numbers(t, "0 2 1 3 88")[:4], numbers(t, "0 1 1 1 88")[:4]
	for range 2 {
		goes(t, m, way, 14)
		got, _, err := trip.Round(m)
		are(t, got, err, []int{0, 1, 2, 3})
		spoil(got)
		joins(t, m, 4)
		got, err = trip.Near(m)
		are(t, got, err, []int{0, 1, 2, 3})
		spoil(got)
		got, err = trip.Better(m, way)
		are(t, got, err, []int{0, 1, 2, 3})
		spoil(got)
		got, err = trip.Better(m, got[:0:0])
		says(t, err, api.ErrForm)
		spoil(got)
		l, err := trip.Savings(m, wants, 2)
		says(t, err, api.OK)
		for i := range l {
			spoil(l[i])
			for _, other := range l[i+1:] {
				if slices.Contains(other, 77) {
					t.Errorf("two tours share memory")
				}
			}
		}
		toured(t, m, wants, 2, tours("1", "23"))
		if !slices.Equal(way[:5], []int{0, 2, 1, 3, 88}) || !slices.Equal(wants[:5], []int{0, 1, 1, 1, 88}) || len(m[:5][4]) != 2 {
			t.Errorf("%v, %v, %v", way[:5], wants[:5], m[:5])
		}
		for i, row := range plan(t, four) {
			if !slices.Equal(m[i][:5], append(row, 88)) {
				t.Errorf("%v", m[i][:5])
			}
		}
	}
}

// P4: a way that nothing makes shorter comes out in memory of its own.
func TestBetterIsFresh(t *testing.T) {
	m, way := plan(t, four), upTo(4)
	got, err := trip.Better(m, way)
	are(t, got, err, upTo(4))
	spoil(got)
	if !slices.Equal(way, upTo(4)) {
		t.Errorf("%v", way)
	}
}
