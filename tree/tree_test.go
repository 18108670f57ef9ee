package tree_test

import (
	"math/rand"
	"slices"
	"testing"

	"foresight/api"
	"foresight/tree"
)

// village is five places: 2 is joined to 0, 1 and 3, and 3 to 4.
func village() []tree.Edge { return edges(0, 2, 4, 3, 2, 1, 2, 1, 2, 3, 4, 6) }

// 20.1: Far by hand.
func TestFar(t *testing.T) {
	for at, want := range [][]int{{0, 6, 4, 5, 11}, {6, 0, 2, 3, 9}, {4, 2, 0, 1, 7}, {5, 3, 1, 0, 6}, {11, 9, 7, 6, 0}} {
		away(t, 5, village(), at, want)
	}
	away(t, 1, nil, 0, []int{0})
	away(t, 2, edges(0, 1, 0), 1, []int{0, 0})
	away(t, 2, edges(1, 0, api.MaxTime), 1, []int{api.MaxTime, 0})
	away(t, 4, row(4, 3), 1, []int{3, 0, 3, 6})
	away(t, 4, star(4, 3, 2), 0, []int{0, 4, 4, 2})
}

// 20.2: Sum and Middle by hand.
func TestSum(t *testing.T) {
	for _, c := range []struct {
		places  int
		l       []tree.Edge
		people  []int
		sums    []int
		at, sum int
	}{
		{1, nil, []int{7}, []int{0}, 0, 0},
		{2, edges(0, 1, 5), []int{1, 2}, []int{10, 5}, 1, 5},
		// Of like ones the first.
		{2, edges(0, 1, 5), []int{2, 2}, []int{10, 10}, 0, 10}, {2, edges(1, 0, 0), []int{1, 9}, []int{0, 0}, 0, 0},
		{3, row(3, 1), []int{0, 0, 0}, []int{0, 0, 0}, 0, 0}, {4, row(4, 1), []int{1, 1, 1, 1}, []int{6, 4, 4, 6}, 1, 4},
		{5, village(), []int{1, 1, 1, 1, 1}, []int{26, 20, 14, 15, 33}, 2, 14},
		{5, village(), []int{0, 0, 0, 0, 1}, []int{11, 9, 7, 6, 0}, 4, 0},
		{5, village(), []int{2, 0, 1, 0, 3}, []int{37, 41, 29, 29, 29}, 2, 29},
		{5, village(), []int{9, 1, 2, 3, 0}, []int{29, 67, 41, 50, 140}, 0, 29},
	} {
		for at, want := range c.sums {
			together(t, c.places, c.l, c.people, at, want)
		}
		middle(t, c.places, c.l, c.people, c.at, c.sum)
	}
}

// 20.2: Branches by hand: in the order of the edges, whichever way round.
func TestBranches(t *testing.T) {
	people := []int{1, 20, 300, 4000, 5}
	for at, want := range [][]int{{4325}, {4306}, {1, 4005, 20}, {321, 5}, {4321}} {
		branch(t, 5, village(), people, at, want)
	}
	branch(t, 1, nil, []int{7}, 0, nil)
	branch(t, 2, edges(0, 1, 0), []int{7, 8}, 0, []int{8})
	branch(t, 2, edges(0, 1, 0), []int{7, 8}, 1, []int{7})
	branch(t, 4, star(4, 2, 1), []int{1, 2, 3, 4}, 2, []int{1, 2, 4})
	branch(t, 4, edges(3, 0, 1, 0, 1, 1, 2, 0, 1), []int{1, 2, 3, 4}, 0, []int{4, 2, 3})
	branch(t, 4, row(4, 1), []int{0, 0, 0, 0}, 1, []int{0, 0})
}

// 20.3: Center and Across by hand.
func TestCenter(t *testing.T) {
	for _, c := range []struct {
		places         int
		l              []tree.Edge
		at, far        int
		from, to, long int
	}{
		{1, nil, 0, 0, 0, 0, 0}, {2, edges(1, 0, 0), 0, 0, 0, 0, 0}, {2, edges(1, 0, 5), 0, 5, 0, 1, 5},
		{3, row(3, 1), 1, 1, 0, 2, 2}, {4, row(4, 1), 1, 2, 0, 3, 3}, {5, row(5, 1), 2, 2, 0, 4, 4}, {5, row(5, 0), 0, 0, 0, 0, 0},
		{5, village(), 3, 6, 0, 4, 11},
		// Of like ones the first: each two leaves, and each of those at 0 from it.
		{5, star(5, 0, 3), 0, 3, 1, 2, 6}, {5, star(5, 4, 3), 4, 3, 0, 1, 6}, {5, star(5, 2, 3), 2, 3, 0, 1, 6},
		{4, edges(0, 3, 0, 1, 3, 0, 2, 3, 5), 0, 5, 0, 2, 5}, {4, edges(0, 1, 5, 2, 1, 0, 3, 2, 0), 0, 5, 0, 1, 5},
		{4, edges(3, 2, 4, 2, 1, 1, 1, 0, 4), 1, 5, 0, 3, 9}, {4, edges(0, 3, 4, 3, 1, 1, 1, 2, 4), 1, 5, 0, 2, 9},
		{2, edges(0, 1, api.MaxTime), 0, api.MaxTime, 0, 1, api.MaxTime},
	} {
		center(t, c.places, c.l, c.at, c.far)
		across(t, c.places, c.l, c.from, c.to, c.long)
	}
}

// truth is what the document asks of a tree and its people.
type truth struct {
	far          [][]int
	sums, most   []int
	middle, hub  int
	a, b, longer int
}

// truthOf is that by how far each two places are from each other.
func truthOf(places int, l []tree.Edge, people []int) truth {
	out := truth{far: between(places, l)}
	for i, row := range out.far {
		sum := 0
		for k, far := range row {
			sum += people[k] * far
			if far > out.longer {
				out.a, out.b, out.longer = i, k, far
			}
		}
		out.sums, out.most = append(out.sums, sum), append(out.most, slices.Max(row))
	}
	out.middle = slices.Index(out.sums, slices.Min(out.sums))
	out.hub = slices.Index(out.most, slices.Min(out.most))
	return out
}

// beyond is how many people are on the other side of each edge at a place: of
// all edges, each of which comes to be a wall, who is not joined to it.
func beyond(places int, l []tree.Edge, people []int, at int) []int {
	var out []int
	for i, wall := range l {
		if wall.A != at && wall.B != at {
			continue
		}
		group := make([]int, places)
		for place := range group {
			group[place] = place
		}
		for k, e := range l {
			if k == i {
				continue
			}
			from, to := group[e.A], group[e.B]
			for place, g := range group {
				if g == from {
					group[place] = to
				}
			}
		}
		sum := 0
		for place, g := range group {
			if g != group[at] {
				sum += people[place]
			}
		}
		out = append(out, sum)
	}
	return out
}

// 20.1 to 20.3: all of what looks drawn, against the words.
func TestDrawn(t *testing.T) {
	die := rand.New(rand.NewSource(3))
	for i := range 200 {
		places := 1 + i%api.MaxJobs
		if i%2 == 0 {
			places = 1 + i%9
		}
		l, people := drawn(die, places, 0, long(die)), drawnPeople(die, places)
		want := truthOf(places, l, people)
		for at := range places {
			away(t, places, l, at, want.far[at])
			together(t, places, l, people, at, want.sums[at])
			branch(t, places, l, people, at, beyond(places, l, people, at))
		}
		middle(t, places, l, people, want.middle, want.sums[want.middle])
		center(t, places, l, want.hub, want.most[want.hub])
		across(t, places, l, want.a, want.b, want.longer)
	}
}

// 20.2 (GOLDMAN): where all edges are longer than 0, no branch at the middle
// has more than half of all, and a place of which that is so is no farther from
// them than it.
func TestGoldman(t *testing.T) {
	die := rand.New(rand.NewSource(4))
	for i := range 300 {
		places := 1 + i%20
		l, people := drawn(die, places, 1, 1+long(die)%30), drawnPeople(die, places)
		best, least, err := tree.Middle(places, l, people)
		says(t, err, api.OK)
		for at := range places {
			branches, err := tree.Branches(places, l, people, at)
			says(t, err, api.OK)
			if total(branches)+people[at] != total(people) {
				t.Errorf("%v, %v: %v at %d are not all", l, people, branches, at)
			}
			half := !slices.ContainsFunc(branches, func(n int) bool { return 2*n > total(people) })
			sum, err := tree.Sum(places, l, people, at)
			says(t, err, api.OK)
			if half != (sum == least) || at == best && !half {
				t.Errorf("%v, %v: branches %v at %d, together %d; at %d %d", l, people, branches, at, sum, best, least)
			}
		}
	}
}

// 20.1 to 20.3: as many places as there may be, as far as may be, with as many
// people.
func TestOfMany(t *testing.T) {
	const n, long = api.MaxJobs, api.MaxTime
	l, people := row(n, long), slices.Repeat([]int{crowd}, n)
	var want []int
	for i := range n {
		want = append(want, i*long)
	}
	away(t, n, l, 0, want)
	together(t, n, l, people, 0, crowd*long*n*(n-1)/2)
	middle(t, n, l, people, n/2-1, crowd*long*(n/2)*(n/2))
	center(t, n, l, n/2-1, n/2*long)
	across(t, n, l, 0, n-1, (n-1)*long)
	branch(t, n, l, people, n-2, []int{(n - 2) * crowd, crowd})
	l = star(n, n-1, long)
	middle(t, n, l, people, n-1, crowd*long*(n-1))
	branch(t, n, l, people, n-1, people[1:])
	center(t, n, l, n-1, long)
	across(t, n, l, 0, 1, 2*long)
}

// spoil writes into a list, up to the end of its memory.
func spoil(l []int) {
	for i := range l[:cap(l)] {
		l[:cap(l)][i] = 77
	}
}

// P4: what is handed in stays as it is, also behind a list's length; and what
// came out is the caller's.
func TestArgumentsStay(t *testing.T) {
	whole := append(village(), tree.Edge{A: 88, B: 88, Long: 88})
	l := whole[:4]
	people := []int{2, 0, 1, 0, 3, 88}[:5]
	for range 2 {
		got, err := tree.Far(5, l, 2)
		are(t, got, err, []int{4, 2, 0, 1, 7})
		spoil(got)
		got, err = tree.Branches(5, l, people, 2)
		are(t, got, err, []int{2, 3, 0})
		spoil(got)
		together(t, 5, l, people, 0, 37)
		middle(t, 5, l, people, 2, 29)
		center(t, 5, l, 3, 6)
		across(t, 5, l, 0, 4, 11)
		if !slices.Equal(whole, append(village(), tree.Edge{A: 88, B: 88, Long: 88})) || !slices.Equal(people[:6], []int{2, 0, 1, 0, 3, 88}) {
			t.Errorf("%v, %v", whole, people[:6])
		}
	}
}
