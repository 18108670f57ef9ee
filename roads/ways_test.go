package roads_test

import (
	"math/big"
	"math/rand"
	"slices"
	"testing"

	"foresight/api"
	"foresight/ratio"
	"foresight/roads"
)

// 18.2: Times and Rest by hand.
func TestTimes(t *testing.T) {
	for _, c := range []struct {
		l, ways, flows, want string
		rest                 bool
	}{
		{"1 1; 2 1", "a; b", "5/2 3/2", "7/2 7/2", true},
		{"1 1; 2 1", "a; b", "9/4 7/4", "13/4 15/4", false},
		{"1 1; 2 1", "a; b", "4 0", "5 2", false},
		{"1 1; 2 1", "a; b", "1 0", "2 2", true},
		{"1 1; 2 1", "a; b", "1/2 0", "3/2 2", true},
		{"1 1; 2 1", "a; b", "0 1/2", "1 5/2", false},
		{"1 1; 2 1", "b; a", "0 1/2", "2 3/2", true},
		// Nobody goes: nobody would be faster.
		{"1 1; 2 1", "a; b", "0 0", "1 2", true},
		{"1 1; 2 1", "a", "7", "8", true},
		{"1 1; 2 1", "ab", "7", "17", true},
		{"1 1; 2 1", "ba", "7", "17", true},
		{"1 1; 2 1", "ab; a", "1 2", "7 4", false},
		{"1 1; 2 1", "ab; a", "0 2", "5 3", true},
		// One that is gone twice has its flow twice, and takes its time twice.
		{"1 1; 2 1", "aa", "3", "14", true},
		{"1 1; 2 1", "aa; a", "3 1", "16 8", false},
		{"1 1; 2 1", "aba; b", "1 2", "11 5", false},
		{"0 1", "aaa", "1", "9", true},
		// A way that goes no road.
		{"1 1", "; a", "1 1", "0 2", false},
		{"1 1", "; a", "1 0", "0 1", true},
		{"0 0; 0 1", "a; b", "5 0", "0 0", true},
		{"0 0; 0 1", "a; b", "5 ~", "0 " + tiny, false},
		{"0 0; 3 0", "ab; ba", "5 6", "3 3", true},
		// One way twice.
		{"1 1", "a; a; a", "1 2 0", "4 4 4", true},
	} {
		last(t, some(t, c.l), through(c.ways), list(t, c.flows), c.want, c.rest)
	}
	last(t, nil, nil, nil, "", true)
	last(t, []roads.Road{}, []roads.Way{}, []ratio.Ratio{}, "", true)
	last(t, alike(1), nil, nil, "", true)
	last(t, nil, []roads.Way{nil, {}}, whole(2, 3), "0 0", true)
}

// 18.2 (Braess): a road that is made makes it worse for all.
func TestBraess(t *testing.T) {
	l, ways := some(t, "0 1/100; 45 0; 45 0; 0 1/100; 0 0"), through("ab; cd; aed")
	last(t, l, ways[:2], whole(2, 2000), "65 65", true)
	last(t, l, ways, list(t, "2000 2000 0"), "65 65 40", false)
	last(t, l, ways, list(t, "0 0 4000"), "85 85 80", true)
	// As long as few go, it is good.
	last(t, l, ways, list(t, "0 0 1000"), "55 55 20", true)
	last(t, l, ways[:2], list(t, "500 500"), "50 50", true)
}

// 18.1, 18.2: roads beside each other, a way each: at Calm they are at rest; at
// Good just if that is no worse.
func TestRestAtCalm(t *testing.T) {
	die := rand.New(rand.NewSource(4))
	same := 0
	for i := range 120 {
		l, demand := drawn(die, 1+i%api.MaxMany), part(die.Intn(20), 1+die.Intn(4))
		var ways []roads.Way
		for road := range l {
			ways = append(ways, roads.Way{road})
		}
		x, _, err := roads.Calm(l, demand)
		says(t, err, api.OK, written(l))
		y, _, err := roads.Good(l, demand)
		says(t, err, api.OK, written(l))
		like := ratio.Words(x) == ratio.Words(y)
		if like {
			same++
		}
		for _, c := range []struct {
			flows []ratio.Ratio
			want  bool
		}{{x, true}, {y, like}} {
			rest, err := roads.Rest(l, ways, c.flows)
			if err != nil || rest != c.want {
				t.Errorf("%s, %s: %v, %v, want %v", written(l), ratio.Words(c.flows), rest, err, c.want)
			}
		}
	}
	if same == 0 || same == 120 {
		t.Errorf("of the drawn ones in %d Good is Calm", same)
	}
}

// 18.2: Times and Rest of what looks drawn, against the words, by the library.
func TestTimesDrawn(t *testing.T) {
	die := rand.New(rand.NewSource(5))
	var still, not int
	for i := range 600 {
		l := drawn(die, 1+die.Intn(5))
		switch i % 20 {
		case 6:
			l = drawn(die, api.MaxMany)
		case 13:
			l = long(t, l)
		}
		l[die.Intn(len(l))].Slope = ratio.Ratio{}
		ways := make([]roads.Way, 1+die.Intn(4))
		if i%20 == 6 {
			ways = make([]roads.Way, api.MaxMany)
		}
		flows := make([]ratio.Ratio, len(ways))
		for k := range ways {
			for range die.Intn(5) {
				ways[k] = append(ways[k], die.Intn(len(l)))
			}
			if i%20 == 6 {
				ways[k] = append(ways[k], die.Perm(api.MaxMany)[:api.MaxMany-len(ways[k])]...)
			}
			flows[k] = part(max(0, die.Intn(12)-4), 1+die.Intn(3))
		}
		times, rest := lasting(t, l, ways, flows)
		last(t, l, ways, flows, words(times), rest)
		if rest {
			still++
		} else {
			not++
		}
	}
	if still < 100 || not < 100 {
		t.Errorf("of the drawn ones %d are at rest, %d not: too few", still, not)
	}
}

// lasting is Times and Rest by the words, by the library.
func lasting(t *testing.T, l []roads.Road, ways []roads.Way, flows []ratio.Ratio) ([]*big.Rat, bool) {
	t.Helper()
	var roadTimes []*big.Rat
	for road, r := range l {
		x := new(big.Rat)
		for k, way := range ways {
			for range slices.DeleteFunc(slices.Clone(way), func(n int) bool { return n != road }) {
				x.Add(x, known(t, flows[k]))
			}
		}
		roadTimes = append(roadTimes, takes(t, r, x))
	}
	var times []*big.Rat
	for _, way := range ways {
		time := new(big.Rat)
		for _, road := range way {
			time.Add(time, roadTimes[road])
		}
		times = append(times, time)
	}
	rest := true
	for k := range ways {
		for _, other := range times {
			if flows[k].Sign() > 0 && times[k].Cmp(other) > 0 {
				rest = false
			}
		}
	}
	return times, rest
}
