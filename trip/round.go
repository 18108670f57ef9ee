package trip

// set is places, each by its bit.
type set uint

// others is the places of a map but 0.
func others(m Map) set { return set(1<<len(m) - 1).without(0) }

// has says whether a place is in a set.
func (s set) has(place int) bool { return s&(1<<place) != 0 }

// without is a set less a place.
func (s set) without(place int) set { return s &^ (1 << place) }

// homes is, of each set of places but 0, and of each place, how long the shortest way is from there over the whole set, and home to 0.
func homes(m Map) [][]int {
	home := make([][]int, others(m)+1)
	// By twos: 0, the lowest bit, is in none of the sets.
	for s := set(0); s <= others(m); s += 2 {
		home[s] = make([]int, len(m))
		for at := range m {
			_, home[s][at] = onward(m, home, s, at)
		}
	}
	return home
}

// onward is where the shortest way from a place over a whole set, and home to 0, goes next (of like ones the first place), and how long it is; home tells of all sets that are less by a place.
func onward(m Map, home [][]int, s set, at int) (next, far int) {
	far = m[at][0]
	for k := range m {
		if !s.has(k) {
			continue
		}
		if over := m[at][k] + home[s.without(k)][k]; next == 0 || over < far {
			next, far = k, over
		}
	}
	return next, far
}

// nearest is the least far place that is not taken, of like ones the first; -1, if all are taken.
func nearest(far []int, taken []bool) int {
	best := -1
	for k, long := range far {
		if !taken[k] && (best < 0 || long < far[best]) {
			best = k
		}
	}
	return best
}

// alike says whether it is as far from each place to each other as back.
func alike(m Map) bool {
	for i, row := range m {
		for k, far := range row {
			if far != m[k][i] {
				return false
			}
		}
	}
	return true
}

// shortens says whether a round way is shorter with its places from i to k the other way round, on a map that is the same both ways: only the roads ahead of i and behind k change.
func shortens(m Map, way []int, i, k int) bool {
	ahead, behind := way[i-1], way[(k+1)%len(way)]
	return m[ahead][way[k]]+m[way[i]][behind] < m[ahead][way[i]]+m[way[k]][behind]
}
