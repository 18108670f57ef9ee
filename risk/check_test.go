package risk_test

import (
	"math"
	"math/rand"
	"slices"
	"testing"

	"foresight/api"
	"foresight/ratio"
	"foresight/risk"
)

// 21.1: what may be: 1 to 10 parts, 1 to 20 gates, each on up to 20.
func TestCheck(t *testing.T) {
	die := rand.New(rand.NewSource(1))
	for parts := 1; parts <= mostParts; parts++ {
		for gates := 1; gates <= mostGates; gates++ {
			says(t, risk.Check(parts, plain(gates)), api.OK, parts, gates)
			says(t, risk.Check(parts, make([]risk.Gate, gates)), api.OK, "on nothing", parts, gates)
			for range 5 {
				l := drawn(die, parts, gates)
				says(t, risk.Check(parts, l), api.OK, parts, l)
			}
			l := plain(gates)
			for i := range l {
				l[i] = all(slices.Repeat([]int{parts - 1, -i}, mostOn/2)...)
			}
			says(t, risk.Check(parts, l), api.OK, "the longest", parts, gates)
		}
	}
}

// 21.1: how many parts and gates there may be, whatever else is wrong.
func TestCheckHowMany(t *testing.T) {
	wrong := gate(-1, slices.Repeat([]int{77}, mostOn+1)...)
	for _, parts := range []int{math.MinInt, -1, 0, mostParts + 1, 63, 64, 100, math.MaxInt} {
		for _, l := range [][]risk.Gate{plain(1), plain(mostGates), nil, {wrong}, {gate(1)}, {some(parts)}} {
			refused(t, parts, l, api.ErrLimit, parts, l)
		}
	}
	for parts := 1; parts <= mostParts; parts++ {
		refused(t, parts, nil, api.ErrLimit, parts, "nil")
		refused(t, parts, []risk.Gate{}, api.ErrLimit, parts, "no gates")
		for _, gates := range []int{mostGates + 1, mostGates + 2, 100} {
			refused(t, parts, plain(gates), api.ErrLimit, parts, gates)
			refused(t, parts, slices.Repeat([]risk.Gate{gate(-1)}, gates), api.ErrLimit, parts, gates)
		}
	}
}

// wrongGate is one that may not be at a place, and what Check says of it.
type wrongGate struct {
	name string
	g    risk.Gate
	want api.Errno
}

// wrongGates is those of a place over so many parts, those with several errors
// among them.
func wrongGates(parts, ahead int) []wrongGate {
	out := []wrongGate{
		{"on too many", gate(1, make([]int, mostOn+1)...), api.ErrLimit},
		{"on far too many", gate(1, make([]int, 1000)...), api.ErrLimit},
		{"on too many, and below 0", gate(-1, make([]int, mostOn+1)...), api.ErrLimit},
		{"on too many, of more", gate(mostOn+2, make([]int, mostOn+1)...), api.ErrLimit},
		{"on too many that there are not", gate(1, slices.Repeat([]int{parts}, mostOn+1)...), api.ErrLimit},
		{"below 0", gate(-1, 0), api.ErrArg},
		{"far below 0", gate(math.MinInt, 0), api.ErrArg},
		{"below 0 of nothing", gate(-1), api.ErrArg},
		{"one of nothing", gate(1), api.ErrArg},
		{"more than it stands on", gate(3, 0, 0), api.ErrArg},
		{"far more", gate(math.MaxInt, 0, 0), api.ErrArg},
		{"more than the most", gate(mostOn+1, make([]int, mostOn)...), api.ErrArg},
		{"more than it stands on, which there is not", gate(2, parts), api.ErrArg},
		{"below 0, on what there is not", gate(-1, -ahead-1), api.ErrArg},
	}
	for _, name := range []int{parts, parts + 1, mostParts, 63, 64, math.MaxInt, -ahead - 1, -ahead - 2, -mostGates, -mostGates - 1, math.MinInt} {
		for _, least := range []int{0, 1, 3} {
			for place := range 3 {
				on := make([]int, 3)
				on[place] = name
				if name >= parts || name < -ahead {
					out = append(out, wrongGate{"on what there is not", gate(least, on...), api.ErrRange})
				}
			}
		}
		if name >= parts || name < -ahead {
			on := make([]int, mostOn)
			on[mostOn-1] = name
			out = append(out, wrongGate{"the last one is not", gate(0, on...), api.ErrRange})
		}
	}
	return out
}

// 21.1: each wrong gate, alone, at each place.
func TestCheckWrongGate(t *testing.T) {
	for _, parts := range []int{1, 2, mostParts} {
		for _, gates := range []int{1, 2, 5, mostGates} {
			for at := range gates {
				for _, w := range wrongGates(parts, at) {
					l := plain(gates)
					l[at] = w.g
					refused(t, parts, l, w.want, parts, gates, at, w.name, w.g)
				}
			}
		}
	}
}

// 21.1: a gate may stand on the one right ahead of it, and on no other that
// comes: neither on itself.
func TestCheckAhead(t *testing.T) {
	for at := range mostGates {
		for name := -mostGates - 1; name < 0; name++ {
			l := plain(mostGates)
			l[at] = some(name)
			want := api.OK
			if -name > at {
				want = api.ErrRange
			}
			says(t, risk.Check(3, l), want, at, name)
		}
	}
}

// 21.1: gate by gate: all of one ahead of the next one's.
func TestCheckTwoWrong(t *testing.T) {
	for _, first := range wrongGates(2, 1) {
		for _, then := range wrongGates(2, 2) {
			l := plain(4)
			l[1], l[2] = first.g, then.g
			says(t, risk.Check(2, l), first.want, first.name, then.name)
		}
	}
}

// 21.1, 21.2: of as many parts as there are in the list.
func TestAsManyParts(t *testing.T) {
	for parts := 1; parts <= mostParts; parts++ {
		l := []risk.Gate{some(parts - 1)}
		works(t, l, inSet(parts, 1<<(parts-1)), true)
		chance(t, l, make([]ratio.Ratio, parts), "0")
		if parts > 1 {
			refused(t, parts-1, l, api.ErrRange, parts)
		}
	}
	refused(t, 0, []risk.Gate{gate(0)}, api.ErrLimit)
	refused(t, mostParts+1, []risk.Gate{gate(0)}, api.ErrLimit)
}

// 21.2: each chance from 0 to 1, at each place, behind what Check says.
func TestChanceWrong(t *testing.T) {
	wrongs := append(fractions(t, "-1 -1/2 -~ 2 3/2"), ratio.Whole(1).Add(one(t, "~")))
	for _, wrong := range wrongs {
		text := wrong.Text()
		for parts := 1; parts <= mostParts; parts++ {
			for place := range parts {
				for _, other := range []ratio.Ratio{{}, part(1, 2), part(1, 1)} {
					p := slices.Repeat([]ratio.Ratio{other}, parts)
					p[place] = wrong
					refusedChances(t, plain(3), p, api.ErrArg, parts, place, text)
					refusedChances(t, []risk.Gate{gate(0)}, p, api.ErrArg, "needs nothing", parts, place, text)
					refusedChances(t, []risk.Gate{gate(1)}, p, api.ErrArg, parts, place, text)
					refusedChances(t, []risk.Gate{some(parts)}, p, api.ErrRange, parts, place, text)
					refusedChances(t, nil, p, api.ErrLimit, parts, place, text)
				}
			}
		}
	}
	for _, p := range [][]ratio.Ratio{fractions(t, "0 1"), fractions(t, "1 0")} {
		_, err := risk.Chance(plain(1), p)
		says(t, err, api.OK, "the ends")
		_, err = risk.Counts(plain(1), p)
		says(t, err, api.OK, "the ends")
	}
}

// 21.3: how long a row is, how many beside each other, then the chance.
func TestRowWrong(t *testing.T) {
	chances := fractions(t, "0 1/2 1 -1/2 -~ 3/2")
	chances = append(chances, ratio.Whole(1).Add(one(t, "~")))
	for i, p := range chances {
		for _, n := range []int{math.MinInt, -1, 0, 1, 50, api.MaxSize, api.MaxSize + 1, math.MaxInt} {
			for _, beside := range []int{math.MinInt, -1, 0, 1, 50, api.MaxSize, api.MaxSize + 1, math.MaxInt} {
				switch {
				case n < 0 || n > api.MaxSize || beside < 1 || beside > api.MaxSize:
					refusedRow(t, n, beside, p, api.ErrRange)
				case i > 2:
					refusedRow(t, n, beside, p, api.ErrArg)
				default:
					_, err := risk.Row(n, beside, p)
					says(t, err, api.OK, n, beside, p.Text())
				}
			}
		}
	}
}
