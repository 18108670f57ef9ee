package trip

import (
	"cmp"
	"slices"
)

// saving is by how much shorter it is to go from one place to another one than home to 0, and out again.
type saving struct{ from, to, by int }

// savings is all those above 0, the greatest first, of like ones by their places.
func savings(m Map) []saving {
	var out []saving
	for i := range m {
		for k := range m {
			by := m[i][0] + m[0][k] - m[i][k]
			if i != k && i != 0 && k != 0 && by > 0 {
				out = append(out, saving{i, k, by})
			}
		}
	}
	slices.SortStableFunc(out, func(a, b saving) int { return cmp.Compare(b.by, a.by) })
	return out
}

// join makes one of the tour that ends where a saving begins and of another one that begins where it ends, if there are these two, and room for both together. The tours lie by their first places.
func join(tours map[int]Tour, s saving, wants []int, room int) {
	first := ending(tours, s.from)
	one, other := tours[first], tours[s.to]
	if first == s.to || len(one) == 0 || len(other) == 0 || load(one, wants)+load(other, wants) > room {
		return
	}
	tours[first] = append(one, other...)
	delete(tours, s.to)
}

// ending is the first place of the tour that ends at a place; 0, if there is none (there never are two).
func ending(tours map[int]Tour, place int) int {
	for first, tour := range tours {
		if tour[len(tour)-1] == place {
			return first
		}
	}
	return 0
}

// load is what the places of a tour want together.
func load(tour Tour, wants []int) int {
	sum := 0
	for _, place := range tour {
		sum += wants[place]
	}
	return sum
}
