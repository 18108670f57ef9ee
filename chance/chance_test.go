package chance_test

import (
	"errors"
	"math"
	"math/big"
	"strings"
	"testing"

	"foresight/api"
	"foresight/chance"
	"foresight/ratio"
)

// law reads fractions, apart by spaces.
func law(t *testing.T, text string) chance.Law {
	t.Helper()
	var out chance.Law
	for word := range strings.FieldsSeq(text) {
		out = append(out, one(t, word))
	}
	return out
}

// one is the fraction of a text that must be one.
func one(t *testing.T, text string) ratio.Ratio {
	t.Helper()
	a, err := ratio.Parse(text)
	if err != nil {
		t.Fatalf("Parse(%q): %v", text, err)
	}
	return a
}

// text is a law as law reads it.
func text(l chance.Law) string {
	return ratio.Words(l)
}

// even is a law of so many like numbers.
func even(t *testing.T, n int) chance.Law {
	t.Helper()
	share, err := ratio.Of(1, n)
	if err != nil {
		t.Fatal(err)
	}
	out := make(chance.Law, n)
	for i := range out {
		out[i] = share
	}
	return out
}

// noughts is so many numbers of 0.
func noughts(n int) chance.Law {
	return make(chance.Law, n)
}

// sure is the law of an amount that is certain.
func sure(amount int) chance.Law {
	return append(noughts(amount), ratio.Whole(1))
}

// below is a list that is 1 together, with a number below 0.
func below(t *testing.T) chance.Law {
	t.Helper()
	return law(t, "-1/2 1 1/2")
}

// says fails unless an error is that Errno itself, as no place belongs to it.
func says(t *testing.T, what string, err error, want api.Errno) {
	t.Helper()
	if want == api.OK && err == nil {
		return
	}
	if err != error(want) {
		t.Errorf("%s: error %v, want %v", what, err, want)
	}
}

// is fails unless an answer is as wanted, with no error.
func is(t *testing.T, what string, got ratio.Ratio, err error, want string) {
	t.Helper()
	if err != nil || got.Text() != want {
		t.Errorf("%s: %s, error %v, want %s", what, got.Text(), err, want)
	}
}

// refused fails unless a fraction is 0 beside the wanted error.
func refused(t *testing.T, what string, got ratio.Ratio, err error, want api.Errno) {
	t.Helper()
	says(t, what, err, want)
	if got.Sign() != 0 {
		t.Errorf("%s: %s beside an error", what, got.Text())
	}
}

// bad is a list that is no law, and what Check says of it.
type bad struct {
	name string
	l    chance.Law
	want api.Errno
}

// wrong is lists that are no laws, those with several errors among them.
func wrong(t *testing.T) []bad {
	t.Helper()
	long := append(sure(0), noughts(api.MaxSize+1)...)
	longBelow := append(below(t), noughts(api.MaxSize-1)...)
	return []bad{
		{"nil", nil, api.ErrLimit},
		{"no numbers", chance.Law{}, api.ErrLimit},
		{"MaxSize + 2 numbers", even(t, api.MaxSize+2), api.ErrLimit},
		{"MaxSize + 2 numbers, noughts at the end", long, api.ErrLimit},
		{"MaxSize + 2 numbers, one below 0", longBelow, api.ErrLimit},
		{"MaxSize + 2 noughts", noughts(api.MaxSize + 2), api.ErrLimit},
		{"first below 0", below(t), api.ErrArg},
		{"last below 0", law(t, "1/2 1 -1/2"), api.ErrArg},
		{"below 0, and not 1 together", law(t, "1/2 -1/3 1/2"), api.ErrArg},
		{"below 0 behind a sum above 1", law(t, "1 1 -1"), api.ErrArg},
		{"one number, below 0", law(t, "-1"), api.ErrArg},
		{"one nought", law(t, "0"), api.ErrSum},
		{"noughts alone", noughts(api.MaxSize + 1), api.ErrSum},
		{"above 1 together", law(t, "1/2 1/2 1/1000000"), api.ErrSum},
		{"below 1 together", law(t, "1/3 1/3 333333/1000000"), api.ErrSum},
		{"one number above 1", law(t, "2"), api.ErrSum},
	}
}

// 2.1: what a law is.
func TestCheck(t *testing.T) {
	for _, l := range []chance.Law{
		law(t, "1"), law(t, "1/2 1/2"), law(t, "1/2 1/3 1/6"), law(t, "0 0 1"),
		law(t, "1 0 0"), law(t, "0 1/4 0 3/4 0"),
		even(t, api.MaxSize+1), sure(api.MaxSize), append(sure(0), noughts(api.MaxSize)...),
		law(t, "1/7777777777777777777777777777777777777777 7777777777777777777777777777777777777776/7777777777777777777777777777777777777777"),
	} {
		says(t, "Check of "+text(l), chance.Check(l), api.OK)
	}
	for _, c := range wrong(t) {
		says(t, "Check: "+c.name, chance.Check(c.l), c.want)
	}
}

// 2.1: Shares asks for so many first of all, then for a law.
func TestShares(t *testing.T) {
	says(t, "one of 1", chance.Shares(law(t, "1"), 1), api.OK)
	says(t, "three", chance.Shares(law(t, "1/2 0 1/2"), 3), api.OK)
	says(t, "MaxSize + 1", chance.Shares(even(t, api.MaxSize+1), api.MaxSize+1), api.OK)
	for _, n := range []int{math.MinInt, -1, 0, 1, 3, math.MaxInt} {
		says(t, "two, another n", chance.Shares(law(t, "1/2 1/2"), n), api.ErrForm)
	}
	for _, c := range wrong(t) {
		says(t, "Shares: "+c.name, chance.Shares(c.l, len(c.l)), c.want)
		says(t, "Shares, one more: "+c.name, chance.Shares(c.l, len(c.l)+1), api.ErrForm)
		says(t, "Shares, one less: "+c.name, chance.Shares(c.l, len(c.l)-1), api.ErrForm)
	}
}

// 2.1: Trim, of any list of numbers.
func TestTrim(t *testing.T) {
	for _, c := range [][2]string{
		{"", ""}, {"0", "0"}, {"1", "1"}, {"0 0", "0"}, {"0 0 0 0", "0"},
		{"1 0 0", "1"}, {"1/2 0 1/2 0", "1/2 0 1/2"}, {"0 0 1", "0 0 1"},
		{"0 1", "0 1"}, {"1/2 1/2", "1/2 1/2"},
		{"-1 0", "-1"}, {"5 -2 0 0", "5 -2"}, {"0 -1/3", "0 -1/3"},
	} {
		if got := text(chance.Trim(law(t, c[0]))); got != c[1] {
			t.Errorf("Trim of %q: %q, want %q", c[0], got, c[1])
		}
	}
	if got := chance.Trim(nil); len(got) != 0 {
		t.Errorf("Trim of nil: %v", got)
	}
	if got := chance.Trim(chance.Law{}); len(got) != 0 {
		t.Errorf("Trim of an empty list: %v", got)
	}
	if got := chance.Trim(noughts(1000)); len(got) != 1 {
		t.Errorf("Trim of 1000 noughts has %d numbers", len(got))
	}
	long := append(sure(5*api.MaxSize), noughts(7)...)
	if got := chance.Trim(long); text(got) != text(sure(5*api.MaxSize)) {
		t.Error("Trim of a list beyond a law's size")
	}
}

// 2.2: Moment of ordinary laws and of the edges.
func TestMoment(t *testing.T) {
	for _, c := range []struct {
		l     string
		power int
		want  string
	}{
		{"1/4 1/4 1/2", 0, "1"}, {"1/4 1/4 1/2", 1, "5/4"}, {"1/4 1/4 1/2", 2, "9/4"},
		{"1/4 1/4 1/2", 3, "17/4"}, {"1/4 1/4 1/2", 4, "33/4"},
		{"1", 0, "1"}, {"1", 1, "0"}, {"1", 4, "0"},
		{"1 0 0", 0, "1"}, {"0 1", 4, "1"}, {"0 0 0 1", 4, "81"}, {"0 1/2 0 1/2", 1, "2"},
	} {
		got, err := chance.Moment(law(t, c.l), c.power)
		is(t, "Moment of "+c.l, got, err, c.want)
	}
	for power, want := range []string{"1", "100", "10000", "1000000", "100000000"} {
		got, err := chance.Moment(sure(api.MaxSize), power)
		is(t, "Moment of MaxSize", got, err, want)
	}
	got, err := chance.Moment(even(t, api.MaxSize+1), 4)
	is(t, "fourth Moment of alike amounts", got, err, "20300330") // (1 + 16 + .. + 100 to the power of 4) / 101
}

// 2.2: Moment's errors: what Check says stands ahead of the power's.
func TestMomentWrong(t *testing.T) {
	for _, power := range []int{-1, 5, math.MinInt, math.MaxInt} {
		got, err := chance.Moment(law(t, "1/2 1/2"), power)
		refused(t, "Moment", got, err, api.ErrRange)
	}
	for _, c := range wrong(t) {
		for _, power := range []int{1, -1, 5} {
			got, err := chance.Moment(c.l, power)
			refused(t, "Moment: "+c.name, got, err, c.want)
		}
	}
}

// 2.2: Over of ordinary laws and of the edges.
func TestOver(t *testing.T) {
	for _, c := range []struct {
		l    string
		from int
		want string
	}{
		{"1/4 1/4 1/2", 0, "5/4"}, {"1/4 1/4 1/2", 1, "1/2"}, {"1/4 1/4 1/2", 2, "0"},
		{"1/4 1/4 1/2", 3, "0"}, {"1/4 1/4 1/2", api.MaxSize, "0"},
		{"1", 0, "0"}, {"1", api.MaxSize, "0"}, {"0 0 0 0 1", 1, "3"}, {"0 1/3 0 0 2/3 0 0", 2, "4/3"},
	} {
		got, err := chance.Over(law(t, c.l), c.from)
		is(t, "Over of "+c.l, got, err, c.want)
	}
	for from, want := range map[int]string{0: "100", 1: "99", 99: "1", 100: "0"} {
		got, err := chance.Over(sure(api.MaxSize), from)
		is(t, "Over of MaxSize", got, err, want)
	}
}

// 2.2: Over's errors: what Check says stands ahead of the amount's.
func TestOverWrong(t *testing.T) {
	for _, from := range []int{-1, api.MaxSize + 1, math.MinInt, math.MaxInt} {
		got, err := chance.Over(law(t, "1/2 1/2"), from)
		refused(t, "Over", got, err, api.ErrRange)
	}
	for _, c := range wrong(t) {
		for _, from := range []int{1, -1, api.MaxSize + 1} {
			got, err := chance.Over(c.l, from)
			refused(t, "Over: "+c.name, got, err, c.want)
		}
	}
}

// 2.2: Least of ordinary laws and of the edges.
func TestLeast(t *testing.T) {
	for _, c := range []struct {
		l, chance string
		want      int
	}{
		{"1/4 1/4 1/2", "1/100", 0}, {"1/4 1/4 1/2", "1/4", 0}, {"1/4 1/4 1/2", "26/100", 1},
		{"1/4 1/4 1/2", "1/2", 1}, {"1/4 1/4 1/2", "51/100", 2}, {"1/4 1/4 1/2", "1", 2},
		{"1", "1", 0}, {"1", "1/1000000", 0}, {"1 0 0 0", "1", 0},
		{"0 0 1", "1/1000000", 2}, {"1/2 0 0 1/2 0", "1/2", 0}, {"1/2 0 0 1/2 0", "1", 3},
		{"0 1/3 1/3 1/3", "2/3", 2}, {"0 1/3 1/3 1/3", "1/3333333333333333333333333333333333333333", 1},
	} {
		got, err := chance.Least(law(t, c.l), one(t, c.chance))
		if got != c.want || err != nil {
			t.Errorf("Least of %s, %s: %d, error %v, want %d", c.l, c.chance, got, err, c.want)
		}
	}
	for _, n := range []int{1, 50, 100, 101} {
		share, _ := ratio.Of(n, api.MaxSize+1)
		if got, err := chance.Least(even(t, api.MaxSize+1), share); got != n-1 || err != nil {
			t.Errorf("Least of alike amounts, %s: %d, error %v", share.Text(), got, err)
		}
	}
	if got, err := chance.Least(sure(api.MaxSize), one(t, "1")); got != api.MaxSize || err != nil {
		t.Errorf("Least of MaxSize: %d, error %v", got, err)
	}
}

// 2.2: Least's errors: what Check says stands ahead of the chance's.
func TestLeastWrong(t *testing.T) {
	outside := law(t, "0 -1/1000000 -1 1000001/1000000 2")
	for _, share := range append(outside, ratio.Ratio{}) {
		got, err := chance.Least(law(t, "0 1/2 1/2"), share)
		says(t, "Least of "+share.Text(), err, api.ErrRange)
		if got != 0 {
			t.Errorf("Least of %s: %d beside an error", share.Text(), got)
		}
	}
	for _, c := range wrong(t) {
		for _, share := range law(t, "1/2 1 0 2") {
			got, err := chance.Least(c.l, share)
			says(t, "Least: "+c.name, err, c.want)
			if got != 0 {
				t.Errorf("Least: %s: %d beside an error", c.name, got)
			}
		}
	}
}

// 2.3: the law of a sum, up to the last amounts that may be.
func TestBoth(t *testing.T) {
	for _, c := range [][3]string{
		{"1", "1", "1"}, {"1/2 1/2", "1", "1/2 1/2"}, {"1", "1/2 1/2", "1/2 1/2"},
		{"1/2 1/2", "1/2 1/2", "1/4 1/2 1/4"}, {"1/2 1/2", "1/4 0 3/4", "1/8 1/8 3/8 3/8"},
		{"0 1", "0 0 1", "0 0 0 1"}, {"1 0 0", "1 0", "1"}, {"1/2 1/2 0 0", "1/3 2/3 0", "1/6 1/2 1/3"},
		{"1/2 0 1/2", "1/2 0 1/2 0", "1/4 0 1/2 0 1/4"},
	} {
		got, err := chance.Both(law(t, c[0]), law(t, c[1]))
		if text(got) != c[2] || err != nil {
			t.Errorf("Both of %s and %s: %s, error %v, want %s", c[0], c[1], text(got), err, c[2])
		}
	}
}

// 2.3: what the limit counts is the numbers of both, trimmed.
func TestBothLimit(t *testing.T) {
	for _, last := range []int{0, 1, 49, 50, 99, 100} {
		a, b := sure(last), sure(api.MaxSize-last)
		got, err := chance.Both(a, b)
		if text(got) != text(sure(api.MaxSize)) || err != nil {
			t.Errorf("Both of %d and %d: %s, error %v", last, api.MaxSize-last, text(got), err)
		}
		got, err = chance.Both(a, sure(min(api.MaxSize-last+1, api.MaxSize)))
		if last > 0 && (got != nil || err != error(api.ErrLimit)) {
			t.Errorf("Both of %d and one too many: %s, error %v", last, text(got), err)
		}
	}
	full := even(t, api.MaxSize+1)
	padded := append(sure(0), noughts(api.MaxSize)...)
	for _, pair := range [][2]chance.Law{{full, padded}, {padded, full}} {
		got, err := chance.Both(pair[0], pair[1])
		if text(got) != text(full) || err != nil {
			t.Errorf("Both with noughts at an end: %s, error %v", text(got), err)
		}
	}
	got, err := chance.Both(full, full)
	if got != nil || err != error(api.ErrLimit) {
		t.Errorf("Both of two full laws: %s, error %v", text(got), err)
	}
}

// 2.3: what Check says of a, then of b, stands ahead of the limit.
func TestBothWrong(t *testing.T) {
	good, full := law(t, "1/2 1/2"), even(t, api.MaxSize+1)
	for _, c := range wrong(t) {
		for _, other := range []chance.Law{good, full} {
			for _, pair := range [][2]chance.Law{{c.l, other}, {other, c.l}} {
				got, err := chance.Both(pair[0], pair[1])
				says(t, "Both: "+c.name, err, c.want)
				if got != nil {
					t.Errorf("Both: %s: %s beside an error", c.name, text(got))
				}
			}
		}
		for _, d := range wrong(t) {
			_, err := chance.Both(c.l, d.l)
			says(t, "Both: "+c.name+", "+d.name, err, c.want)
		}
	}
}

// P3: the errors are Errnos that errors.As finds.
func TestErrorsAsErrnos(t *testing.T) {
	var e api.Errno
	if err := chance.Check(nil); !errors.As(err, &e) || e != api.ErrLimit {
		t.Errorf("Check of nil: %v", err)
	}
}

// P4: nothing that is handed in is written into, nor what stands behind its
// length; and what comes out is memory of its own.
func TestHandedInStays(t *testing.T) {
	whole := law(t, "1/4 1/4 1/2 0 0 7 8 9")
	before := text(whole)
	l := whole[:5]
	stays := func(what string) {
		t.Helper()
		if text(whole) != before {
			t.Fatalf("%s wrote into a law: %s", what, text(whole))
		}
	}
	says(t, "Check", chance.Check(l), api.OK)
	says(t, "Shares", chance.Shares(l, 5), api.OK)
	stays("Check")
	for power := range 5 {
		chance.Moment(l, power)
		chance.Over(l, power)
		chance.Least(l, one(t, "3/4"))
	}
	stays("a mean")
	sum, _ := chance.Both(l, l)
	stays("Both")
	cut := chance.Trim(l)
	for _, out := range []chance.Law{sum, cut} {
		for i := range out {
			out[i] = ratio.Whole(77)
		}
		_ = append(out, ratio.Whole(78))
	}
	stays("an answer")
	for _, edge := range []string{"1", "0", "1/2 1/2"} {
		kept := law(t, edge)
		chance.Trim(kept)[0] = ratio.Whole(77)
		alone, _ := chance.Both(kept, law(t, "1"))
		if len(alone) > 0 {
			alone[0] = ratio.Whole(77)
		}
		if text(kept) != edge {
			t.Errorf("an answer shares memory with %s", edge)
		}
	}
}

// die: numbers that look drawn, the same each time.
type die uint64

func (d *die) upTo(most int) int {
	*d = *d*6364136223846793005 + 1442695040888963407
	return int(uint64(*d>>33) % uint64(most+1))
}

// drawn is a law of shares with lower numbers of many kinds, its last number
// above 0, and the same one in the library's numbers.
func drawn(t *testing.T, d *die, most int) (chance.Law, []*big.Rat) {
	t.Helper()
	var l chance.Law
	var rats []*big.Rat
	left := ratio.Whole(1)
	for range d.upTo(most) {
		part, _ := ratio.Of(d.upTo(3), 4+d.upTo(50))
		l = append(l, left.Mul(part))
		left = left.Sub(left.Mul(part))
	}
	l = append(l, left)
	for _, share := range l {
		r, ok := new(big.Rat).SetString(share.Text())
		if !ok {
			t.Fatalf("%s is no fraction", share.Text())
		}
		rats = append(rats, r)
	}
	return l, rats
}

// same fails unless a fraction is the library's.
func same(t *testing.T, what string, got ratio.Ratio, err error, want *big.Rat) {
	t.Helper()
	is(t, what, got, err, want.RatString())
}

// weighed is the sum of shares, each times what its amount counts for.
func weighed(rats []*big.Rat, worth func(amount int64) *big.Int) *big.Rat {
	sum := new(big.Rat)
	for k, r := range rats {
		sum.Add(sum, new(big.Rat).Mul(r, new(big.Rat).SetInt(worth(int64(k)))))
	}
	return sum
}

// 2.2: means of drawn laws against the library's numbers, by the plain words.
func TestDrawnMeans(t *testing.T) {
	d := die(5)
	for range 200 {
		l, rats := drawn(t, &d, 12)
		for n := range 5 {
			got, err := chance.Moment(l, n)
			same(t, "Moment of "+text(l), got, err, weighed(rats, func(k int64) *big.Int {
				return new(big.Int).Exp(big.NewInt(k), big.NewInt(int64(n)), nil)
			}))
			got, err = chance.Over(l, n)
			same(t, "Over of "+text(l), got, err, weighed(rats, func(k int64) *big.Int {
				return big.NewInt(max(k-int64(n), 0))
			}))
		}
	}
}

// 2.3: sums of drawn laws against the library's numbers, amount by amount.
func TestDrawnSums(t *testing.T) {
	d := die(6)
	for range 200 {
		l, rats := drawn(t, &d, 12)
		other, others := drawn(t, &d, 12)
		both, err := chance.Both(l, other)
		if len(both) != len(rats)+len(others)-1 {
			t.Fatalf("Both of %s and %s has %d numbers, error %v", text(l), text(other), len(both), err)
		}
		for sum, got := range both {
			want := new(big.Rat)
			for k := max(0, sum-len(others)+1); k <= min(sum, len(rats)-1); k++ {
				want.Add(want, new(big.Rat).Mul(rats[k], others[sum-k]))
			}
			same(t, "Both of "+text(l)+" and "+text(other), got, err, want)
		}
		says(t, "Check of a sum's law", chance.Check(both), api.OK)
	}
}

// 2.3: means add up, and the greatest laws are done in time.
func TestBothAddsMeans(t *testing.T) {
	d := die(9)
	for range 5 {
		a, _ := drawn(t, &d, 50)
		b, _ := drawn(t, &d, 50)
		both, err := chance.Both(a, b)
		if err != nil {
			t.Fatal(err)
		}
		one, _ := chance.Moment(a, 1)
		two, _ := chance.Moment(b, 1)
		got, err := chance.Moment(both, 1)
		is(t, "mean of a sum", got, err, one.Add(two).Text())
	}
}
