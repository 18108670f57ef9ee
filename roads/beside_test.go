package roads_test

import (
	"math/big"
	"math/rand"
	"slices"
	"testing"

	"foresight/api"
	"foresight/ratio"
	"foresight/roads"
)

// 18.1: Calm by hand.
func TestCalm(t *testing.T) {
	for _, c := range []struct{ l, demand, x, time string }{
		{"1 1; 2 1", "4", "5/2 3/2", "7/2"},
		{"1 1", "4", "4", "5"}, {"0 ~", "1", "1", tiny}, {"3 1/2", "1/3", "1/3", "19/6"},
		{"1 1; 2 1", "1/2", "1/2 0", "3/2"}, {"2 1; 1 1", "1/2", "0 1/2", "3/2"},
		// What is as long free as the others take, is empty.
		{"1 1; 2 1", "1", "1 0", "2"}, {"2 1; 1 1", "1", "0 1", "2"},
		{"1 1; 2 1; 3 1", "3", "2 1 0", "3"}, {"3 1; 1 1; 2 1", "3", "0 2 1", "3"},
		{"1 1; 2 1; 3 1", "4", "7/3 4/3 1/3", "10/3"},
		{"1 1; 1 1; 1 1", "1", "1/3 1/3 1/3", "4/3"}, {"1 1; 1 2; 1 3", "11", "6 3 2", "7"},
		{"0 1; 0 1", "5", "5/2 5/2", "5/2"}, {"0 1; 0 4; 5 1", "5", "4 1 0", "4"},
		{"0 1; 1 1; 1 1; 9 1", "4", "2 1 1 0", "2"},
		{"1 1; 2 1", "0", "0 0", "0"}, {"1 1", "0", "0", "0"}, {"0 1; 0 1", "0", "0 0", "0"},
		{"0 1; 1 1", "~", tiny + " 0", tiny},
	} {
		goes(t, "Calm", some(t, c.l), one(t, c.demand), c.x, c.time)
	}
}

// 18.1: Good and Toll by hand.
func TestGood(t *testing.T) {
	for _, c := range []struct{ l, demand, x, time, toll string }{
		{"1 1; 2 1", "4", "9/4 7/4", "11/2", "9/4 7/4"},
		{"1 1", "4", "4", "9", "4"}, {"3 1/2", "1/3", "1/3", "10/3", "1/6"},
		{"1 1; 2 1", "1/2", "1/2 0", "2", "1/2 0"}, {"1 1; 2 1", "1/4", "1/4 0", "3/2", "1/4 0"},
		{"2 1; 1 1", "3/4", "1/8 5/8", "9/4", "1/8 5/8"},
		{"1 1; 2 2; 3 1", "2", "13/10 2/5 3/10", "18/5", "13/10 4/5 3/10"},
		{"1 1; 1 2; 1 3", "11", "6 3 2", "13", "6 6 6"},
		{"1 1; 2 1", "0", "0 0", "0", "0 0"}, {"1 1", "0", "0", "0", "0"},
	} {
		goes(t, "Good", some(t, c.l), one(t, c.demand), c.x, c.time)
		tolled(t, some(t, c.l), one(t, c.demand), c.toll)
	}
}

// 18.1: Cost by hand.
func TestCost(t *testing.T) {
	for _, c := range []struct{ l, x, want string }{
		{"1 1; 2 1", "5/2 3/2", "14"}, {"1 1; 2 1", "9/4 7/4", "111/8"}, {"1 1; 2 1", "0 0", "0"},
		{"1 1; 2 1", "4 0", "20"}, {"1 1; 2 1", "0 4", "24"}, {"3 1/2", "1/3", "19/18"},
		{"0 1; 0 2; 5 3", "1 2 3", "51"}, {"0 ~", "1", tiny},
	} {
		costs(t, some(t, c.l), list(t, c.x), c.want)
	}
}

// level fails unless it is so by the words: demand together, and all that are
// gone take as long, no other one less, each with so many times its slope.
func level(t *testing.T, l []roads.Road, demand ratio.Ratio, slopes int, x []ratio.Ratio, time ratio.Ratio, err error) {
	t.Helper()
	says(t, err, api.OK, written(l), demand.Text())
	if len(x) != len(l) {
		t.Fatalf("%s: %d numbers", written(l), len(x))
	}
	all, long := new(big.Rat), known(t, time)
	for i, a := range allKnown(t, x) {
		all.Add(all, a)
		r := takes(t, l[i], product(a, big.NewRat(int64(slopes), 1)))
		if a.Sign() < 0 || a.Sign() > 0 && r.Cmp(long) != 0 || a.Sign() == 0 && r.Cmp(long) < 0 {
			t.Errorf("%s, %s: %s goes %d, and takes %s, not %s", written(l), demand.Text(), a.RatString(), i, r.RatString(), time.Text())
		}
	}
	if all.Cmp(known(t, demand)) != 0 {
		t.Errorf("%s, %s: %s goes together", written(l), demand.Text(), all.RatString())
	}
}

// spent is Cost by the words, by the library.
func spent(t *testing.T, l []roads.Road, x []*big.Rat) *big.Rat {
	t.Helper()
	out := new(big.Rat)
	for i, a := range x {
		out.Add(out, product(a, takes(t, l[i], a)))
	}
	return out
}

// parted is demand, parted among so many roads as it looks drawn.
func parted(t *testing.T, die *rand.Rand, demand ratio.Ratio, n int) []ratio.Ratio {
	t.Helper()
	out, left := make([]ratio.Ratio, n), demand
	for _, i := range die.Perm(n)[1:] {
		out[i] = left.Mul(part(die.Intn(5), 4+die.Intn(4)))
		left = left.Sub(out[i])
	}
	i := die.Intn(n)
	out[i] = out[i].Add(left)
	return out
}

// 18.1: Calm, Good, Toll and Cost of what looks drawn. In no way do all take
// less than by Good; by Calm they take at most four thirds of it; and if the
// tolls are paid, as time, Calm is what Good was.
func TestBesideDrawn(t *testing.T) {
	die := rand.New(rand.NewSource(2))
	empty, worse := 0, 0
	for i := range 400 {
		l, demand := drawn(die, 1+i%api.MaxMany), part(1+die.Intn(40), 1+die.Intn(5))
		if i%10 == 7 {
			l = long(t, l)
		}
		x, time, err := roads.Calm(l, demand)
		level(t, l, demand, 1, x, time, err)
		y, more, err := roads.Good(l, demand)
		level(t, l, demand, 2, y, more, err)
		if slices.ContainsFunc(x, func(a ratio.Ratio) bool { return a.Sign() == 0 }) {
			empty++
		}
		calm, least := spent(t, l, allKnown(t, x)), spent(t, l, allKnown(t, y))
		costs(t, l, x, calm.RatString())
		costs(t, l, y, least.RatString())
		if calm.Cmp(least) > 0 {
			worse++
		}
		if calm.Cmp(least) < 0 || product(calm, big.NewRat(3, 4)).Cmp(least) > 0 {
			t.Errorf("%s, %s: by Calm %s, by Good %s", written(l), demand.Text(), calm.RatString(), least.RatString())
		}
		for range 5 {
			z := parted(t, die, demand, len(l))
			other := spent(t, l, allKnown(t, z))
			costs(t, l, z, other.RatString())
			if other.Cmp(least) < 0 {
				t.Errorf("%s, %s: %s costs %s, Good %s", written(l), demand.Text(), ratio.Words(z), other.RatString(), least.RatString())
			}
		}
		var tolls []*big.Rat
		paid := slices.Clone(l)
		for k, r := range l {
			tolls = append(tolls, product(known(t, r.Slope), known(t, y[k])))
			paid[k].Free = r.Free.Add(r.Slope.Mul(y[k]))
		}
		tolled(t, l, demand, words(tolls))
		goes(t, "Calm", paid, demand, ratio.Words(y), more.Text())
	}
	if empty < 100 || worse < 100 {
		t.Errorf("of the drawn ones %d have an empty road, in %d Calm is worse: too few", empty, worse)
	}
}

// 18.1: demand that just fills roads up to the time of the next one, and just
// less, and just more.
func TestCalmAtTheNext(t *testing.T) {
	die := rand.New(rand.NewSource(3))
	least := one(t, "~")
	for i := range 60 {
		l := drawn(die, 2+i%(api.MaxMany-1))
		for _, next := range l {
			just := ratio.Ratio{}
			for _, r := range l {
				if r.Free.Cmp(next.Free) < 0 {
					share, err := next.Free.Sub(r.Free).Div(r.Slope)
					says(t, err, api.OK)
					just = just.Add(share)
				}
			}
			if just.Sign() == 0 {
				continue
			}
			for _, demand := range []ratio.Ratio{just.Sub(least), just, just.Add(least)} {
				x, time, err := roads.Calm(l, demand)
				level(t, l, demand, 1, x, time, err)
				if time.Cmp(next.Free) != demand.Cmp(just) {
					t.Errorf("%s, %s: %s, the next one's is %s", written(l), demand.Text(), time.Text(), next.Free.Text())
				}
			}
		}
	}
}

// 18.1 (Pigou): it comes as near four thirds as one likes, and never there.
func TestFourThirds(t *testing.T) {
	l, demand := some(t, "1 ~; 0 1"), ratio.Whole(1)
	x, _, err := roads.Calm(l, demand)
	says(t, err, api.OK)
	y, _, err := roads.Good(l, demand)
	says(t, err, api.OK)
	share := new(big.Rat).Quo(spent(t, l, allKnown(t, x)), spent(t, l, allKnown(t, y)))
	if share.Cmp(big.NewRat(4, 3)) >= 0 || share.Cmp(big.NewRat(1333333333, 1000000000)) < 0 {
		t.Errorf("by Calm they take %s of the least", share.FloatString(20))
	}
}

// spoil writes into a list, up to the end of its memory.
func spoil[T any](l []T, a T) {
	for i := range l[:cap(l)] {
		l[:cap(l)][i] = a
	}
}

// P4: what is handed in stays as it is, also behind a list's length; and what
// came out is the caller's.
func TestArgumentsStay(t *testing.T) {
	text, more := "1 1; 2 1", ratio.Whole(77)
	l := some(t, text+"; 77 77")[:2]
	x := list(t, "5/2 3/2 77")[:2]
	ways := through("aa; b; zz")[:2]
	ways[1] = append(ways[1], 88)[:1]
	for range 2 {
		for _, ask := range []func([]roads.Road, ratio.Ratio) ([]ratio.Ratio, ratio.Ratio, error){roads.Calm, roads.Good} {
			for _, demand := range []int{0, 4} {
				got, _, err := ask(l, ratio.Whole(demand))
				says(t, err, api.OK)
				spoil(got, more)
			}
		}
		for _, demand := range []int{0, 4} {
			got, err := roads.Toll(l, ratio.Whole(demand))
			says(t, err, api.OK)
			spoil(got, more)
		}
		goes(t, "Calm", l, ratio.Whole(4), "5/2 3/2", "7/2")
		goes(t, "Good", l, ratio.Whole(4), "9/4 7/4", "11/2")
		tolled(t, l, ratio.Whole(4), "9/4 7/4")
		goes(t, "Calm", l, ratio.Whole(0), "0 0", "0")
		costs(t, l, x, "14")
		times, err := roads.Times(l, ways, x)
		says(t, err, api.OK)
		spoil(times, more)
		last(t, l, ways, x, "12 7/2", false)
		if written(l) != text || written(l[:3]) != text+"; 77 77" || ratio.Words(x[:3]) != "5/2 3/2 77" {
			t.Errorf("%s, %s", written(l[:3]), ratio.Words(x[:3]))
		}
		if !slices.Equal(ways[0], roads.Way{0, 0}) || !slices.Equal(ways[1][:2], roads.Way{1, 88}) || !slices.Equal(ways[:3][2], roads.Way{25, 25}) {
			t.Errorf("%v", ways[:3])
		}
	}
}
