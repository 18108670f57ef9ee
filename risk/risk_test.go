package risk_test

import (
	"math/big"
	"math/rand"
	"slices"
	"strings"
	"testing"

	"foresight/api"
	"foresight/ratio"
	"foresight/risk"
)

// 21.1, 21.2: the document's example, part by part.
func TestExample(t *testing.T) {
	l, p := example(), fractions(t, "1/2 1/2 1/2 1/4")
	chance(t, l, p, "5/8")
	counts(t, l, p, "3/8 3/8 3/8 1/2")
	sets(t, 4, l, []int{3, 5, 6, 8}, []int{11, 13, 14})
	for set, want := range []bool{false, false, false, true, false, true, true, true} {
		works(t, l, inSet(4, set), want)
		works(t, l, inSet(4, set+8), true)
	}
}

// 21.1, 21.2: other gates by hand.
func TestByHand(t *testing.T) {
	p := fractions(t, "1/2 1/3 1/5")
	for _, c := range []struct {
		l           []risk.Gate
		chance      string
		counts      string
		paths, cuts []int
	}{
		{[]risk.Gate{all(0, 1, 2)}, "1/30", "1/15 1/10 1/6", []int{7}, []int{1, 2, 4}},
		{[]risk.Gate{some(0, 1, 2)}, "11/15", "8/15 2/5 1/3", []int{1, 2, 4}, []int{7}},
		{[]risk.Gate{gate(2, 0, 1, 2)}, "4/15", "2/5 1/2 1/2", []int{3, 5, 6}, []int{3, 5, 6}},
		{[]risk.Gate{some(1)}, "1/3", "0 1 0", []int{2}, []int{2}},
		// What needs nothing always works: no part counts, nothing cuts it.
		{[]risk.Gate{gate(0)}, "1", "0 0 0", []int{0}, nil},
		{[]risk.Gate{gate(0, 0, 1, 2)}, "1", "0 0 0", []int{0}, nil},
		{[]risk.Gate{gate(0), some(-1, 0)}, "1", "0 0 0", []int{0}, nil},
		{[]risk.Gate{gate(0), all(-1, 0)}, "1/2", "1 0 0", []int{1}, []int{1}},
		// What is named twice counts twice.
		{[]risk.Gate{gate(2, 0, 0, 1)}, "1/2", "1 0 0", []int{1}, []int{1}},
		{[]risk.Gate{gate(2, 0, 0, 1, 2)}, "8/15", "14/15 1/10 1/6", []int{1, 6}, []int{3, 5}},
		{[]risk.Gate{gate(3, 0, 0, 1, 1, 2)}, "4/15", "2/5 1/2 1/2", []int{3, 5, 6}, []int{3, 5, 6}},
		{[]risk.Gate{some(0), some(1), gate(2, -1, -1, -2)}, "1/2", "1 0 0", []int{1}, []int{1}},
		// The last gate is the whole, whatever the others do.
		{[]risk.Gate{all(0, 1, 2), some(2)}, "1/5", "0 0 1", []int{4}, []int{4}},
		{[]risk.Gate{some(0, 1), some(2), all(-2, -1)}, "2/15", "2/15 1/10 2/3", []int{5, 6}, []int{3, 4}},
		// -1 is the first gate, -2 the second.
		{[]risk.Gate{some(0), some(1), some(2), all(-1, -3)}, "1/10", "1/5 0 1/2", []int{5}, []int{1, 4}},
		{[]risk.Gate{some(0), some(1), some(2), all(-2, -3)}, "1/15", "0 1/5 1/3", []int{6}, []int{2, 4}},
	} {
		chance(t, c.l, p, c.chance)
		counts(t, c.l, p, c.counts)
		sets(t, 3, c.l, c.paths, c.cuts)
	}
	half := slices.Repeat([]ratio.Ratio{part(1, 2)}, 5)
	chance(t, bridge(), half, "1/2")
	counts(t, bridge(), half, "3/8 3/8 3/8 3/8 1/8")
	sets(t, 5, bridge(), []int{3, 12, 22, 25}, []int{5, 10, 22, 25})
}

// 21.1, 21.2: all of gates that look drawn, by the words.
func TestDrawn(t *testing.T) {
	die := rand.New(rand.NewSource(2))
	several := 0
	for i := range 400 {
		parts := 1 + i%7
		if i%40 == 39 {
			parts = mostParts
		}
		l, p := drawn(die, parts, 1+die.Intn(6)), drawnChances(die, parts)
		so := table(l, parts)
		for set, want := range so {
			works(t, l, inSet(parts, set), want)
		}
		chance(t, l, p, weighed(t, so, p).RatString())
		var want []string
		for k := range p {
			one, none := slices.Clone(p), slices.Clone(p)
			one[k], none[k] = ratio.Whole(1), ratio.Ratio{}
			with := weighed(t, so, one)
			want = append(want, with.Sub(with, weighed(t, so, none)).RatString())
		}
		counts(t, l, p, strings.Join(want, " "))
		paths, cuts := minimal(so), minimal(turned(so))
		sets(t, parts, l, paths, cuts)
		if len(paths) > 1 && len(cuts) > 1 {
			several++
		}
	}
	if several < 80 {
		t.Errorf("%d have several paths and cuts: too few", several)
	}
}

// turned is, set by set, whether the whole doesn't work without its parts.
func turned(so []bool) []bool {
	out := make([]bool, len(so))
	for set := range out {
		out[set] = !so[len(so)-1-set]
	}
	return out
}

// minimal is the sets of which it is so, and of no lesser set in them.
func minimal(so []bool) []int {
	var out []int
	for set := range so {
		least := so[set]
		for less := range set {
			if less&set == less && so[less] {
				least = false
			}
		}
		if least {
			out = append(out, set)
		}
	}
	return out
}

// Every path meets every cut; with a path alone it works, without a cut it
// doesn't.
func TestPathsMeetCuts(t *testing.T) {
	die := rand.New(rand.NewSource(3))
	for range 200 {
		parts := 1 + die.Intn(8)
		l := drawn(die, parts, 1+die.Intn(5))
		paths, err := risk.Paths(parts, l)
		says(t, err, api.OK, parts, l)
		cuts, err := risk.Cuts(parts, l)
		says(t, err, api.OK, parts, l)
		for _, path := range paths {
			works(t, l, inSet(parts, path), true)
			for _, cut := range cuts {
				if path&cut == 0 {
					t.Errorf("%v: path %d doesn't meet cut %d", l, path, cut)
				}
			}
		}
		for _, cut := range cuts {
			works(t, l, inSet(parts, 1<<parts-1-cut), false)
		}
	}
}

// 21.2: as likely as all parts is what counts of each: with one part it is as
// without it, and what it counts times its chance.
func TestBirnbaum(t *testing.T) {
	die := rand.New(rand.NewSource(4))
	for range 100 {
		parts := 1 + die.Intn(6)
		l, p := drawn(die, parts, 1+die.Intn(5)), drawnChances(die, parts)
		got, err := risk.Counts(l, p)
		says(t, err, api.OK, l)
		whole, err := risk.Chance(l, p)
		says(t, err, api.OK, l)
		for k := range p {
			without := slices.Clone(p)
			without[k] = ratio.Ratio{}
			least, err := risk.Chance(l, without)
			says(t, err, api.OK, l)
			if got[k].Sign() < 0 || least.Add(got[k].Mul(p[k])).Cmp(whole) != 0 {
				t.Errorf("%v, %s: part %d counts %s", l, ratio.Words(p), k, got[k].Text())
			}
		}
	}
}

// 21.2: as many parts and gates as there may be, and chances of many digits.
func TestOfMany(t *testing.T) {
	var l []risk.Gate
	for i := range mostGates {
		on := []int{-i}
		for k := range mostOn - 1 {
			on = append(on, (i+k)%mostParts)
		}
		l = append(l, gate(1+(i*7)%mostOn, on...))
	}
	ten := slices.Repeat([]int{0, 1, 2, 3, 4, 5, 6, 7, 8, 9}, 2)
	for _, l := range [][]risk.Gate{l, {gate(10, ten...)}} {
		so := table(l, mostParts)
		var p []ratio.Ratio
		for k := range mostParts {
			digits := strings.Repeat("7", api.MaxDigits-1)
			p = append(p, one(t, "123"+digits[:36]+"/"+digits+string(rune('0'+k))))
		}
		chance(t, l, p, weighed(t, so, p).RatString())
		var want []string
		for k := range p {
			one, none := slices.Clone(p), slices.Clone(p)
			one[k], none[k] = ratio.Whole(1), ratio.Ratio{}
			with := weighed(t, so, one)
			want = append(want, with.Sub(with, weighed(t, so, none)).RatString())
		}
		counts(t, l, p, strings.Join(want, " "))
		sets(t, mostParts, l, minimal(so), minimal(turned(so)))
	}
}

// 21.3: rows by hand.
func TestRowByHand(t *testing.T) {
	p := part(2, 3)
	for _, c := range []struct {
		n, beside int
		want      string
	}{
		{0, 1, "1"}, {0, api.MaxSize, "1"}, {1, 1, "2/3"}, {2, 1, "4/9"}, {5, 1, "32/243"},
		{1, 2, "1"}, {2, 2, "8/9"}, {3, 2, "22/27"}, {4, 2, "20/27"}, {3, 3, "26/27"}, {4, 3, "76/81"},
		{3, 4, "1"}, {99, 100, "1"},
	} {
		row(t, c.n, c.beside, p, c.want)
	}
	for n := range api.MaxSize + 1 {
		for beside := 1; beside <= api.MaxSize; beside++ {
			row(t, n, beside, part(1, 1), "1")
			if n < beside {
				row(t, n, beside, ratio.Ratio{}, "1")
				row(t, n, beside, p, "1")
			} else {
				row(t, n, beside, ratio.Ratio{}, "0")
			}
		}
	}
}

// alone is Row by the words: every way that parts work or don't.
func alone(t *testing.T, n, beside int, p ratio.Ratio) *big.Rat {
	t.Helper()
	so := make([]bool, 1<<n)
	for set := range so {
		longest, now := 0, 0
		for _, is := range inSet(n, set) {
			now++
			if is {
				now = 0
			}
			longest = max(longest, now)
		}
		so[set] = longest < beside
	}
	return weighed(t, so, slices.Repeat([]ratio.Ratio{p}, n))
}

// 21.3: short rows, every way gone through.
func TestRowShort(t *testing.T) {
	for _, p := range fractions(t, "0 1/2 1/3 2/5 9/10 1 ~") {
		for n := range 10 {
			for beside := 1; beside <= n+2; beside++ {
				row(t, n, beside, p, alone(t, n, beside, p).RatString())
			}
		}
	}
}

// 21.3: rows of whatever length, part by part, by how many don't work at the
// end of it.
func TestRowLong(t *testing.T) {
	for i, p := range fractions(t, "1/2 3/7 99/100 ~") {
		does := known(t, p)
		not := new(big.Rat).Sub(big.NewRat(1, 1), does)
		for _, beside := range []int{1, 2, 3, 7, 30, 50, 99, 100} {
			if i == 3 && beside > 3 {
				break // by the library it takes long
			}
			ends := make([]*big.Rat, beside)
			for k := range ends {
				ends[k] = new(big.Rat)
			}
			ends[0].SetInt64(1)
			for n := range api.MaxSize + 1 {
				sum := new(big.Rat)
				for _, a := range ends {
					sum.Add(sum, a)
				}
				if n < 12 || n > 97 || n%beside < 2 {
					row(t, n, beside, p, sum.RatString())
				}
				for k := beside - 1; k > 0; k-- {
					ends[k].Mul(ends[k-1], not)
				}
				ends[0].Mul(sum, does)
			}
		}
	}
}

// 21.3: a row is gates: of each so many beside each other one at least works.
func TestRowIsGates(t *testing.T) {
	p := part(3, 5)
	for n := 1; n <= mostParts; n++ {
		for beside := 1; beside <= n; beside++ {
			var l []risk.Gate
			var windows []int
			for from := range n - beside + 1 {
				var on []int
				for k := range beside {
					on = append(on, from+k)
				}
				l = append(l, some(on...))
				windows = append(windows, -len(l))
			}
			l = append(l, all(windows...))
			want, err := risk.Chance(l, slices.Repeat([]ratio.Ratio{p}, n))
			says(t, err, api.OK, n, beside)
			row(t, n, beside, p, want.Text())
		}
	}
}

// spoil writes into a list, up to the end of its memory.
func spoil[T any](l []T, a T) {
	for i := range l[:cap(l)] {
		l[:cap(l)][i] = a
	}
}

// P4: what is handed in stays as it is, also behind a list's length; and what
// came out is the caller's.
func TestArgumentsStay(t *testing.T) {
	l := append(example(), gate(77))[:2]
	l[0].On = []int{0, 1, 2, 77}[:3]
	p := fractions(t, "1/2 1/2 1/2 1/4 77")[:4]
	parts := []bool{true, false, true, false, true}[:4]
	for range 2 {
		says(t, risk.Check(4, l), api.OK)
		works(t, l, parts, true)
		chance(t, l, p, "5/8")
		many, err := risk.Counts(l, p)
		if err != nil || ratio.Words(many) != "3/8 3/8 3/8 1/2" {
			t.Errorf("Counts: %s, %v", ratio.Words(many), err)
		}
		spoil(many, ratio.Whole(77))
		paths, err := risk.Paths(4, l)
		if err != nil || !slices.Equal(paths, []int{3, 5, 6, 8}) {
			t.Errorf("Paths: %v, %v", paths, err)
		}
		spoil(paths, 77)
		cuts, err := risk.Cuts(4, l)
		if err != nil || !slices.Equal(cuts, []int{11, 13, 14}) {
			t.Errorf("Cuts: %v, %v", cuts, err)
		}
		spoil(cuts, 77)
		if !slices.Equal(l[0].On[:4], []int{0, 1, 2, 77}) || !slices.Equal(l[1].On, []int{-1, 3}) || l[0].Least != 2 || l[1].Least != 1 || l[:3][2].Least != 77 {
			t.Errorf("%v", l[:3])
		}
		if ratio.Words(p[:5]) != "1/2 1/2 1/2 1/4 77" || !slices.Equal(parts[:5], []bool{true, false, true, false, true}) {
			t.Errorf("%s, %v", ratio.Words(p[:5]), parts[:5])
		}
	}
}
