package belief_test

import (
	"math/big"
	"math/rand"
	"slices"
	"strings"
	"testing"

	"foresight/api"
	"foresight/belief"
	"foresight/ratio"
)

// Cases by hand: rain or none, and whether somebody has an umbrella; a ring of
// three that is known at once; two states that nobody can tell apart; a state
// that is never left, and gives another sign than the first one.
const (
	rain  = "1/2 1/2 | 7/10 3/10; 3/10 7/10 | 9/10 1/10; 1/5 4/5"
	shown = "1/2 1/4 1/4 | 0 1 0; 0 0 1; 1 0 0 | 1 0 0; 0 1 0; 0 0 1"
	alike = "1/2 1/2 | 0 1; 1 0 | 1; 1"
	stuck = "1 0 | 1/3 2/3; 0 1 | 1 0; 1/4 3/4"
)

// 16.2: Likely by hand: 1 without signs, 0 if they can't come.
func TestLikely(t *testing.T) {
	for _, c := range [][3]string{
		{rain, "", "1"}, {shown, "", "1"}, {stuck, "", "1"},
		{rain, "0", "11/20"}, {rain, "1", "9/20"}, {rain, "00", "703/2000"},
		{shown, "0", "1/2"}, {shown, "012", "1/2"}, {shown, "120", "1/4"}, {shown, "02", "0"}, {shown, "00", "0"},
		{alike, "0", "1"}, {alike, "0000", "1"},
		{stuck, "0", "1"}, {stuck, "1", "0"}, {stuck, "00", "1/2"}, {stuck, "01", "1/2"}, {stuck, "011", "3/8"}, {stuck, "10", "0"},
	} {
		likely(t, hidden(t, c[0]), digits(c[1]), c[2])
	}
}

// 16.2: Filter by hand.
func TestFilter(t *testing.T) {
	for _, c := range [][3]string{
		{rain, "", ""}, {rain, "0", "9/11 2/11"}, {rain, "00", "9/11 2/11; 621/703 82/703"}, {rain, "1", "1/9 8/9"},
		{shown, "120", "0 1 0; 0 0 1; 1 0 0"},
		{alike, "000", "1/2 1/2; 1/2 1/2; 1/2 1/2"},
		{stuck, "0", "1 0"}, {stuck, "00", "1 0; 2/3 1/3"}, {stuck, "01", "1 0; 0 1"},
		{stuck, "010", "1 0; 0 1; 0 1"},
	} {
		filtered(t, hidden(t, c[0]), digits(c[1]), c[2])
	}
}

// 16.2: Smooth by hand: later signs tell of earlier states, too.
func TestSmooth(t *testing.T) {
	for _, c := range [][3]string{
		{rain, "", ""}, {rain, "0", "9/11 2/11"}, {rain, "00", "621/703 82/703; 621/703 82/703"}, {rain, "1", "1/9 8/9"},
		{shown, "120", "0 1 0; 0 0 1; 1 0 0"},
		{alike, "000", "1/2 1/2; 1/2 1/2; 1/2 1/2"},
		{stuck, "00", "1 0; 2/3 1/3"}, {stuck, "01", "1 0; 0 1"}, {stuck, "001", "1 0; 4/7 3/7; 0 1"}, {stuck, "010", "1 0; 0 1; 0 1"},
	} {
		smoothed(t, hidden(t, c[0]), digits(c[1]), c[2])
	}
}

// 16.2 (Viterbi): Path by hand. Of like rows the first by the first number in
// which they differ: not by the last one.
func TestPath(t *testing.T) {
	for _, c := range [][4]string{
		{rain, "", "", "1"}, {shown, "", "", "1"},
		{rain, "0", "0", "9/20"}, {rain, "00", "00", "567/2000"}, {rain, "1", "1", "2/5"}, {rain, "11011", "11111", "19208/1953125"},
		{shown, "120", "120", "1/4"},
		{alike, "0", "0", "1/2"}, {alike, "00", "01", "1/2"}, {alike, "000", "010", "1/2"}, {alike, "0000", "0101", "1/2"},
		{stuck, "0", "0", "1"}, {stuck, "00", "00", "1/3"}, {stuck, "001", "001", "1/6"}, {stuck, "000", "000", "1/9"},
		{"1/2 1/2 | 1/2 1/2; 1/2 1/2 | 1; 1", "000", "000", "1/8"},
		{"1/3 2/3 | 1/2 1/2; 1/4 3/4 | 1; 1", "00", "11", "1/2"},
		{"2/3 1/3 | 1/2 1/2; 0 1 | 1; 1", "00", "00", "1/3"},
		{"1/3 2/3 | 1 0; 1/2 1/2 | 1; 1", "00", "00", "1/3"},
		{"0 1/2 1/2 | 1 0 0; 1/3 1/3 1/3; 1/3 1/3 1/3 | 1; 1; 1", "0000", "1000", "1/6"},
	} {
		gone(t, hidden(t, c[0]), digits(c[1]), digits(c[2]), c[3])
	}
}

// 16.2: signs that can't come: all but Likely say so; at whatever time it shows.
func TestSignsThatCantCome(t *testing.T) {
	for _, c := range [][2]string{
		{stuck, "1"}, {stuck, "10"}, {stuck, "100000000000"},
		{shown, "00"}, {shown, "02"}, {shown, "0121"}, {shown, "012012012011"},
		{"1 0 | 1 0; 0 1 | 1 0; 0 1", "1"}, {"1 0 | 1 0; 0 1 | 1 0; 0 1", "001"},
		{"1 | 1 | 1 0", "1"}, {"1 | 1 | 1 0", "00000000001"},
	} {
		h, signs := hidden(t, c[0]), digits(c[1])
		likely(t, h, signs, "0")
		stateless(t, h, signs, api.ErrNone, c[0], c[1])
	}
}

// 16.2: what hardly can come isn't what can't, and of two rows that are nearly
// as likely the likelier one goes.
func TestHardly(t *testing.T) {
	least := one(t, "~")
	rest := ratio.Whole(1).Sub(least)
	h := belief.Hidden{
		First: []ratio.Ratio{rest, least},
		Next:  [][]ratio.Ratio{{rest, least}, {least, rest}},
		Sign:  [][]ratio.Ratio{sure(2, 0), sure(2, 1)},
	}
	signs := digits("101010101010")
	want := ratio.Whole(1)
	for range signs {
		want = want.Mul(least)
	}
	likely(t, h, signs, want.Text())
	gone(t, h, signs, signs, want.Text())
	filtered(t, h, signs, strings.Repeat("0 1; 1 0; ", 5)+"0 1; 1 0")
	smoothed(t, h, signs, strings.Repeat("0 1; 1 0; ", 5)+"0 1; 1 0")
	half := part(1, 2)
	near := belief.Hidden{
		First: []ratio.Ratio{half, half},
		Next:  [][]ratio.Ratio{{half, half}, {half.Sub(least), half.Add(least)}},
		Sign:  [][]ratio.Ratio{sure(1, 0), sure(1, 0)},
	}
	gone(t, near, []int{0, 0}, []int{1, 1}, half.Mul(half.Add(least)).Text())
}

// checked fails unless all is as the library finds it by all rows of states,
// and is how many rows are the most likely ones.
func checked(t *testing.T, h belief.Hidden, signs []int) int {
	t.Helper()
	w := truthOf(t, h, signs)
	likely(t, h, signs, w.likely.RatString())
	if w.likely.Sign() == 0 {
		stateless(t, h, signs, api.ErrNone, written(h), signs)
		return 0
	}
	var filter, smooth []string
	for time := range signs {
		filter = append(filter, truthOf(t, h, signs[:time+1]).at(time))
		smooth = append(smooth, w.at(time))
	}
	filtered(t, h, signs, strings.Join(filter, "; "))
	smoothed(t, h, signs, strings.Join(smooth, "; "))
	gone(t, h, signs, w.path, w.best.RatString())
	return w.like
}

// 16.2: all of what looks drawn, against the library.
func TestDrawn(t *testing.T) {
	die := rand.New(rand.NewSource(2))
	var none, like int
	for i := range 600 {
		h := drawn(die, 1+i%4, 1+die.Intn(4))
		if i%10 == 0 {
			h = long(t, h)
		}
		switch most := checked(t, h, drawnSigns(die, h, die.Intn(6))); {
		case most == 0:
			none++
		case most > 1:
			like++
		}
	}
	if none < 40 || like < 40 {
		t.Errorf("of the drawn ones %d can't come, %d have like paths: too few", none, like)
	}
}

// 16.2: more states, and more signs.
func TestDrawnOfMany(t *testing.T) {
	die := rand.New(rand.NewSource(3))
	for range 10 {
		h := drawn(die, api.MaxStates, 1+die.Intn(api.MaxStates))
		checked(t, h, drawnSigns(die, h, 4))
		h = drawn(die, 2, 2)
		checked(t, h, drawnSigns(die, h, mostSigns))
		checked(t, long(t, h), drawnSigns(die, h, 6))
	}
}

// 16.2: where all is alike, each row is as likely: the first one goes.
func TestPathAllAlike(t *testing.T) {
	for states := 1; states <= api.MaxStates; states++ {
		even := slices.Repeat([]ratio.Ratio{part(1, states)}, states)
		h := belief.Hidden{First: even}
		for range states {
			h.Next, h.Sign = append(h.Next, even), append(h.Sign, even)
		}
		want := ratio.Whole(1)
		for n := range mostSigns + 1 {
			gone(t, h, make([]int, n), make([]int, n), want.Text())
			want = want.Mul(even[0]).Mul(even[0])
		}
	}
}

// 16.2: with as many states and signs as there may be: signs are as likely as
// with each further one, together; what is known of a time is 1 together; at
// the last time Smooth is Filter; and no row near it goes ahead of Path's.
func TestAllStates(t *testing.T) {
	die := rand.New(rand.NewSource(4))
	for i := range 12 {
		h := drawn(die, api.MaxStates, 2+die.Intn(api.MaxStates-1))
		signs := drawnSigns(die, h, mostSigns)
		sumsUp(t, h, signs)
		filter, err := belief.Filter(h, signs)
		if err != nil {
			says(t, err, api.ErrNone, written(h), signs)
			continue
		}
		smooth, err := belief.Smooth(h, signs)
		says(t, err, api.OK, written(h), signs)
		for time := range signs {
			for _, row := range [][]ratio.Ratio{filter[time], smooth[time]} {
				if len(row) != api.MaxStates || ratio.Sum(row...).Text() != "1" {
					t.Errorf("%d: %s, %v at %d: %s", i, written(h), signs, time, ratio.Words(row))
				}
			}
		}
		if last := len(signs) - 1; ratio.Words(filter[last]) != ratio.Words(smooth[last]) {
			t.Errorf("%s, %v: at last %s, but by all %s", written(h), signs, ratio.Words(filter[last]), ratio.Words(smooth[last]))
		}
		unbeaten(t, h, signs)
	}
}

// sumsUp fails unless signs are as likely as with each further one, together.
func sumsUp(t *testing.T, h belief.Hidden, signs []int) {
	t.Helper()
	for n := range signs {
		want, err := belief.Likely(h, signs[:n])
		says(t, err, api.OK, written(h), signs[:n])
		var sum ratio.Ratio
		for sign := range h.Sign[0] {
			more, err := belief.Likely(h, append(slices.Clone(signs[:n]), sign))
			says(t, err, api.OK, written(h), signs[:n], sign)
			sum = sum.Add(more)
		}
		if sum.Cmp(want) != 0 {
			t.Errorf("%s, %v: %s, with a further sign %s", written(h), signs[:n], want.Text(), sum.Text())
		}
	}
}

// weight is how likely a row of states is with its signs.
func weight(t *testing.T, h belief.Hidden, row, signs []int) *big.Rat {
	t.Helper()
	out, share := big.NewRat(1, 1), h.First
	for time, s := range row {
		out.Mul(out, known(t, share[s]))
		out.Mul(out, known(t, h.Sign[s][signs[time]]))
		share = h.Next[s]
	}
	return out
}

// unbeaten fails if a row that differs from Path's at most in two places side by
// side is likelier, or is as likely and ahead of it.
func unbeaten(t *testing.T, h belief.Hidden, signs []int) {
	t.Helper()
	path, best, err := belief.Path(h, signs)
	says(t, err, api.OK, written(h), signs)
	most := weight(t, h, path, signs)
	if most.RatString() != best.Text() {
		t.Errorf("%s, %v: Path %v is %s, told %s", written(h), signs, path, most, best.Text())
	}
	for time := range len(signs) - 1 {
		for x := range api.MaxStates * api.MaxStates {
			row := slices.Clone(path)
			row[time], row[time+1] = x/api.MaxStates, x%api.MaxStates
			order := weight(t, h, row, signs).Cmp(most)
			if order > 0 || order == 0 && slices.Compare(row, path) < 0 {
				t.Errorf("%s, %v: %v goes ahead of %v", written(h), signs, row, path)
			}
		}
	}
}

// roomy is what hidden reads with more behind each of its lists.
func roomy(t *testing.T, text string) belief.Hidden {
	t.Helper()
	h, more := hidden(t, text), []ratio.Ratio{ratio.Whole(77)}
	room := func(l []ratio.Ratio) []ratio.Ratio { return append(l, more...)[:len(l)] }
	h.First = room(h.First)
	for s := range h.First {
		h.Next[s], h.Sign[s] = room(h.Next[s]), room(h.Sign[s])
	}
	h.Next = append(h.Next, more)[:len(h.First)]
	h.Sign = append(h.Sign, more)[:len(h.First)]
	return h
}

// stays fails unless what roomy made is as it was, behind its lists, too.
func stays(t *testing.T, h belief.Hidden, text string) {
	t.Helper()
	if written(h) != text {
		t.Errorf("%s became %s", text, written(h))
	}
	states := len(h.First)
	lists := append([][]ratio.Ratio{h.First}, append(slices.Clone(h.Next), h.Sign...)...)
	for _, l := range lists {
		if l[:len(l)+1][len(l)].Text() != "77" {
			t.Errorf("%s: behind %s stands %s", text, ratio.Words(l), l[:len(l)+1][len(l)].Text())
		}
	}
	for _, l := range [][][]ratio.Ratio{h.Next, h.Sign} {
		if ratio.Words(l[:states+1][states]) != "77" {
			t.Errorf("%s: behind its rows stands %s", text, ratio.Words(l[:states+1][states]))
		}
	}
}

// spoil writes into lists, up to the end of their memory: each alone, so that
// the others still must be as they were.
func spoil(t *testing.T, l [][]ratio.Ratio) {
	t.Helper()
	for i, row := range l {
		later := lines(l[i+1:])
		for k := range row[:cap(row)] {
			row[:cap(row)][k] = ratio.Whole(-55)
		}
		if lines(l[i+1:]) != later {
			t.Errorf("list %d shares memory with a later one", i)
		}
	}
}

// P4: what is handed in stays as it is, also behind a list's length; and what
// came out is the caller's.
func TestArgumentsStay(t *testing.T) {
	h := roomy(t, rain)
	signs := []int{0, 0, 1}[:2]
	for range 2 {
		says(t, belief.Check(h), api.OK)
		likely(t, h, signs, "703/2000")
		l, err := belief.Filter(h, signs)
		told(t, l, err, "9/11 2/11; 621/703 82/703")
		spoil(t, l)
		l, err = belief.Smooth(h, signs)
		told(t, l, err, "621/703 82/703; 621/703 82/703")
		spoil(t, l)
		path, best, err := belief.Path(h, signs)
		if err != nil || !slices.Equal(path, []int{0, 0}) || best.Text() != "567/2000" {
			t.Errorf("Path: %v, %s, error %v", path, best.Text(), err)
		}
		for i := range path {
			path[i] = 5
		}
		stays(t, h, rain)
		if !slices.Equal(signs[:3], []int{0, 0, 1}) {
			t.Errorf("signs became %v", signs[:3])
		}
	}
}

// P4: where nothing is to be reckoned, what comes out is fresh all the same.
func TestAnswersAreFresh(t *testing.T) {
	h := hidden(t, "1 0 | 1 0; 0 1 | 1; 1")
	for range 2 {
		l, err := belief.Filter(h, []int{0})
		told(t, l, err, "1 0")
		spoil(t, l)
		l, err = belief.Smooth(h, []int{0})
		told(t, l, err, "1 0")
		spoil(t, l)
		if written(h) != "1 0 | 1 0; 0 1 | 1; 1" {
			t.Fatalf("it became %s", written(h))
		}
	}
}
