package cast_test

import (
	"math/big"
	"math/rand"
	"strings"
	"testing"

	"foresight/api"
	"foresight/cast"
	"foresight/ratio"
)

// 23.1: Smooth by hand.
func TestSmoothByHand(t *testing.T) {
	l := list(t, "4 8 0 -2")
	half := part(1, 2)
	smooth(t, l, half, ratio.Whole(2), "3 11/2 11/4 3/8")
	smooth(t, l, part(1, 4), ratio.Ratio{}, "1 11/4 33/16 67/64")
	// Nothing of the numbers counts; nothing else does.
	smooth(t, l, ratio.Ratio{}, part(7, 3), "7/3 7/3 7/3 7/3")
	smooth(t, l, ratio.Whole(1), part(7, 3), "4 8 0 -2")
	smooth(t, list(t, "5"), part(1, 3), ratio.Whole(-1), "1")
	smooth(t, list(t, "5 5 5"), part(1, 3), ratio.Whole(5), "5 5 5")
	smooth(t, nil, half, ratio.Whole(2), "")
	smooth(t, list(t, ""), half, ratio.Whole(2), "")
	smooth(t, []ratio.Ratio{}, ratio.Whole(1), ratio.Whole(2), "")
}

// 23.1: Trend by hand.
func TestTrendByHand(t *testing.T) {
	half, third := part(1, 2), part(1, 3)
	begin := [2]ratio.Ratio{ratio.Whole(2), ratio.Whole(1)}
	// Level 7/2: half of 4, half of 3. Trend: a third of 3/2, two thirds of 1.
	trend(t, list(t, "4 8"), half, third, begin, "7/2 19/3", "7/6 31/18")
	trend(t, list(t, "4 8 0"), ratio.Whole(1), ratio.Whole(1), begin, "4 8 0", "2 4 -8")
	trend(t, list(t, "4 8 0"), ratio.Ratio{}, ratio.Ratio{}, begin, "3 4 5", "1 1 1")
	trend(t, list(t, "4 8 0"), ratio.Ratio{}, half, begin, "3 4 5", "1 1 1")
	trend(t, list(t, "4 8 0"), ratio.Whole(1), ratio.Ratio{}, begin, "4 8 0", "1 1 1")
	trend(t, list(t, "4 8 0"), half, ratio.Ratio{}, begin, "7/2 25/4 29/8", "1 1 1")
	trend(t, list(t, "4 8 0"), half, ratio.Whole(1), begin, "7/2 13/2 19/4", "3/2 3 -7/4")
	trend(t, nil, half, third, begin, "", "")
	trend(t, []ratio.Ratio{}, half, third, begin, "", "")
}

// What goes up alike is foreseen, whatever the parts are.
func TestTrendOfALine(t *testing.T) {
	die := rand.New(rand.NewSource(1))
	for range 60 {
		level, more := drawn(die), drawn(die)
		at := level
		var l, steps []ratio.Ratio
		for range die.Intn(20) {
			at = at.Add(more)
			l, steps = append(l, at), append(steps, more)
		}
		trend(t, l, share(die), share(die), [2]ratio.Ratio{level, more}, ratio.Words(l), ratio.Words(steps))
	}
}

// weighed is, by the words, part times a, and 1 - part times b.
func weighed(part, a, b *big.Rat) *big.Rat {
	return sum(product(part, a), product(less(whole(1), part), b))
}

// 23.1: Smooth is, of each number back, part times the rest to the power of how
// long ago it was; what is left counts what was said at first.
func TestSmoothDrawn(t *testing.T) {
	die := rand.New(rand.NewSource(2))
	for i := range 200 {
		l, p, start := drawnList(die, die.Intn(12)), share(die), drawn(die)
		if i%5 == 4 {
			p = long(t, p)
		}
		var want []*big.Rat
		for n := range l {
			all, left := new(big.Rat), whole(1)
			for back := n; back >= 0; back-- {
				all = sum(all, product(product(left, known(t, p)), known(t, l[back])))
				left = product(left, less(whole(1), known(t, p)))
			}
			want = append(want, sum(all, product(left, known(t, start))))
		}
		smooth(t, l, p, start, words(want))
	}
}

// long is a fraction from 0 to 1 with many digits, near another one.
func long(t *testing.T, p ratio.Ratio) ratio.Ratio {
	t.Helper()
	near := ratio.Whole(1).Sub(one(t, "1/"+strings.Repeat("7", api.MaxDigits)))
	return p.Mul(near)
}

// 23.1: Trend by the words.
func TestTrendDrawn(t *testing.T) {
	die := rand.New(rand.NewSource(3))
	for i := range 200 {
		l, p, slope := drawnList(die, die.Intn(12)), share(die), share(die)
		if i%5 == 4 {
			p, slope = long(t, p), long(t, slope)
		}
		begin := [2]ratio.Ratio{drawn(die), drawn(die)}
		level, rise := known(t, begin[0]), known(t, begin[1])
		var levels, trends []*big.Rat
		for _, x := range l {
			next := weighed(known(t, p), known(t, x), sum(level, rise))
			rise = weighed(known(t, slope), less(next, level), rise)
			level = next
			levels, trends = append(levels, level), append(trends, rise)
		}
		trend(t, l, p, slope, begin, words(levels), words(trends))
	}
}

// Without a trend, and none ever made, Trend is Smooth.
func TestTrendIsSmooth(t *testing.T) {
	die := rand.New(rand.NewSource(4))
	for range 50 {
		l, p, start := drawnList(die, die.Intn(30)), share(die), drawn(die)
		want, err := cast.Smooth(l, p, start)
		says(t, err, api.OK)
		trend(t, l, p, ratio.Ratio{}, [2]ratio.Ratio{start, {}}, ratio.Words(want), ratio.Words(make([]ratio.Ratio, len(l))))
	}
}

// 23.1: as many numbers as there may be.
func TestSaidOfMany(t *testing.T) {
	die := rand.New(rand.NewSource(5))
	l := drawnList(die, api.MaxSize)
	p, slope := part(2, 3), part(3, 7)
	said, level, rise := whole(4), whole(1), whole(-2)
	var wantSaid, levels, trends []*big.Rat
	for _, x := range l {
		said = weighed(known(t, p), known(t, x), said)
		next := weighed(known(t, p), known(t, x), sum(level, rise))
		rise = weighed(known(t, slope), less(next, level), rise)
		level = next
		wantSaid, levels, trends = append(wantSaid, said), append(levels, level), append(trends, rise)
	}
	smooth(t, l, p, ratio.Whole(4), words(wantSaid))
	trend(t, l, p, slope, [2]ratio.Ratio{ratio.Whole(1), ratio.Whole(-2)}, words(levels), words(trends))
}

// spoil writes into a list, up to the end of its memory.
func spoil(l []ratio.Ratio) {
	for i := range l[:cap(l)] {
		l[:cap(l)][i] = ratio.Whole(77)
	}
}

// P4: what is handed in stays as it is, also behind a list's length; what came
// out is the caller's, and no two lists of it share any.
func TestSaidIsFresh(t *testing.T) {
	text := "4 8 0 -2 1/3"
	l := append(list(t, text), ratio.Whole(5))
	l = l[:len(l)-1]
	half, third := part(1, 2), part(1, 3)
	for range 2 {
		said, err := cast.Smooth(l, half, ratio.Whole(2))
		says(t, err, api.OK)
		spoil(said)
		smooth(t, l, half, ratio.Whole(2), "3 11/2 11/4 3/8 17/48")
		levels, trends, err := cast.Trend(l, half, third, ratio.Whole(2), ratio.Whole(1))
		says(t, err, api.OK)
		kept := ratio.Words(trends)
		spoil(levels)
		if ratio.Words(trends) != kept {
			t.Errorf("the trends came to %s", ratio.Words(trends))
		}
		spoil(trends)
		trend(t, l[:2], half, third, [2]ratio.Ratio{ratio.Whole(2), ratio.Whole(1)}, "7/2 19/3", "7/6 31/18")
		line, err := cast.Fit(l, 2)
		says(t, err, api.OK)
		fit(t, l, 2, ratio.Words(line))
		spoil(line)
		if ratio.Words(l) != text || l[:len(l)+1][len(l)].Text() != "5" {
			t.Errorf("%s, then %s", ratio.Words(l), l[:len(l)+1][len(l)].Text())
		}
	}
}
