package tree_test

import (
	"math/rand"
	"slices"
	"testing"

	"foresight/api"
	"foresight/tree"
)

// crowd is the document's greatest number of people at a place.
const crowd = 10_000

// edges is one for each three numbers.
func edges(numbers ...int) []tree.Edge {
	var out []tree.Edge
	for three := range slices.Chunk(numbers, 3) {
		out = append(out, tree.Edge{A: three[0], B: three[1], Long: three[2]})
	}
	return out
}

// row is so many places one behind the other, each so far from the next one.
func row(places, long int) []tree.Edge {
	var out []tree.Edge
	for i := range places - 1 {
		out = append(out, tree.Edge{A: i, B: i + 1, Long: long})
	}
	return out
}

// star is so many places around one of them.
func star(places, at, long int) []tree.Edge {
	var out []tree.Edge
	for i := range places {
		if i != at {
			out = append(out, tree.Edge{A: i, B: at, Long: long})
		}
	}
	return out
}

// drawn is a tree over so many places that looks drawn, its edges each either
// way round, in whatever order, at least and at most so long.
func drawn(die *rand.Rand, places, least, most int) []tree.Edge {
	var out []tree.Edge
	names := die.Perm(places)
	deep := 1 + die.Intn(places)
	for i := 1; i < places; i++ {
		e := tree.Edge{A: names[i], B: names[i-1-die.Intn(min(i, deep))], Long: least + die.Intn(most-least+1)}
		if die.Intn(2) == 0 {
			e.A, e.B = e.B, e.A
		}
		out = append(out, e)
	}
	die.Shuffle(len(out), func(i, k int) { out[i], out[k] = out[k], out[i] })
	return out
}

// long is how long edges that look drawn may be, at most.
func long(die *rand.Rand) int { return []int{0, 1, 3, 20, api.MaxTime}[die.Intn(5)] }

// drawnPeople is so many at each place that look drawn, often nobody.
func drawnPeople(die *rand.Rand, places int) []int {
	most := []int{1, 3, 20, crowd}[die.Intn(4)]
	out := make([]int, places)
	for i := range out {
		out[i] = die.Intn(most + 1)
	}
	return out
}

// between is how far each two places are from each other: the least over all
// places on the way (Floyd and Warshall).
func between(places int, l []tree.Edge) [][]int {
	const never = 1 << 60
	out := make([][]int, places)
	for i := range out {
		out[i] = slices.Repeat([]int{never}, places)
		out[i][i] = 0
	}
	for _, e := range l {
		out[e.A][e.B], out[e.B][e.A] = e.Long, e.Long
	}
	for over := range places {
		for i := range places {
			for k := range places {
				out[i][k] = min(out[i][k], out[i][over]+out[over][k])
			}
		}
	}
	return out
}

// total is a sum.
func total(l []int) int {
	sum := 0
	for _, n := range l {
		sum += n
	}
	return sum
}

// says fails unless an error is that Errno itself, as no place belongs to it.
func says(t *testing.T, err error, want api.Errno, what ...any) {
	t.Helper()
	if want == api.OK && err == nil {
		return
	}
	if err != error(want) {
		t.Errorf("%v: error %v, want %v", what, err, want)
	}
}

// are fails unless numbers are as wanted, with no error.
func are(t *testing.T, got []int, err error, want []int, what ...any) {
	t.Helper()
	if err != nil || !slices.Equal(got, want) {
		t.Errorf("%v: %v, error %v, want %v", what, got, err, want)
	}
}

// away fails unless Far is as wanted.
func away(t *testing.T, places int, l []tree.Edge, at int, want []int) {
	t.Helper()
	got, err := tree.Far(places, l, at)
	are(t, got, err, want, "Far", places, l, at)
}

// together fails unless Sum is as wanted.
func together(t *testing.T, places int, l []tree.Edge, people []int, at, want int) {
	t.Helper()
	got, err := tree.Sum(places, l, people, at)
	are(t, []int{got}, err, []int{want}, "Sum", places, l, people, at)
}

// middle fails unless Middle is as wanted.
func middle(t *testing.T, places int, l []tree.Edge, people []int, at, sum int) {
	t.Helper()
	a, n, err := tree.Middle(places, l, people)
	are(t, []int{a, n}, err, []int{at, sum}, "Middle", places, l, people)
}

// branch fails unless Branches are as wanted.
func branch(t *testing.T, places int, l []tree.Edge, people []int, at int, want []int) {
	t.Helper()
	got, err := tree.Branches(places, l, people, at)
	are(t, got, err, want, "Branches", places, l, people, at)
}

// center fails unless Center is as wanted.
func center(t *testing.T, places int, l []tree.Edge, at, far int) {
	t.Helper()
	a, n, err := tree.Center(places, l)
	are(t, []int{a, n}, err, []int{at, far}, "Center", places, l)
}

// across fails unless Across is as wanted.
func across(t *testing.T, places int, l []tree.Edge, a, b, long int) {
	t.Helper()
	i, k, n, err := tree.Across(places, l)
	are(t, []int{i, k, n}, err, []int{a, b, long}, "Across", places, l)
}

// refusedPeople fails unless all that asks of people, and a place, answers an
// error, and beside it nothing; Middle, if it is so without the place, too.
func refusedPeople(t *testing.T, places int, l []tree.Edge, people []int, at int, also bool, want api.Errno, what ...any) {
	t.Helper()
	n, err := tree.Sum(places, l, people, at)
	says(t, err, want, "Sum", what)
	rest, err := tree.Branches(places, l, people, at)
	says(t, err, want, "Branches", what)
	if n != 0 || rest != nil {
		t.Errorf("%v: %d, %v beside an error", what, n, rest)
	}
	if !also {
		return
	}
	a, n, err := tree.Middle(places, l, people)
	says(t, err, want, "Middle", what)
	if a != 0 || n != 0 {
		t.Errorf("Middle %v: %d, %d beside an error", what, a, n)
	}
}

// refused fails unless all say one thing of a tree that may not be, whatever
// else is wrong.
func refused(t *testing.T, places int, l []tree.Edge, want api.Errno, what ...any) {
	t.Helper()
	says(t, tree.Check(places, l), want, "Check", what)
	for _, at := range []int{0, -1, places} {
		far, err := tree.Far(places, l, at)
		says(t, err, want, "Far", what)
		if far != nil {
			t.Errorf("Far %v: %v beside an error", what, far)
		}
		for _, many := range []int{0, 1, len(l) + 1} {
			for _, n := range []int{1, -1} {
				refusedPeople(t, places, l, slices.Repeat([]int{n}, many), at, true, want, what)
			}
		}
	}
	a, n, err := tree.Center(places, l)
	says(t, err, want, "Center", what)
	i, k, m, wrong := tree.Across(places, l)
	says(t, wrong, want, "Across", what)
	if a != 0 || n != 0 || i != 0 || k != 0 || m != 0 {
		t.Errorf("%v: %d, %d and %d, %d, %d beside errors", what, a, n, i, k, m)
	}
}
