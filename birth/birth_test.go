package birth_test

import (
	"math"
	"math/big"
	"math/rand"
	"strconv"
	"strings"
	"testing"

	"foresight/api"
	"foresight/birth"
	"foresight/ratio"
)

// tiny is the least fraction above 0 that Parse reads.
var tiny = "1/" + strings.Repeat("9", api.MaxDigits)

// one is the fraction of a text that must be one.
func one(t *testing.T, text string) ratio.Ratio {
	t.Helper()
	a, err := ratio.Parse(text)
	if err != nil {
		t.Fatalf("Parse(%q): %v", text, err)
	}
	return a
}

// list reads fractions, apart by spaces.
func list(t *testing.T, text string) []ratio.Ratio {
	t.Helper()
	var out []ratio.Ratio
	for word := range strings.FieldsSeq(text) {
		out = append(out, one(t, word))
	}
	return out
}

// kinds reads kinds of calls, each a load and a size, apart by spaces.
func kinds(t *testing.T, text string) []birth.Kind {
	t.Helper()
	var out []birth.Kind
	words := strings.Fields(text)
	for i := 0; i+1 < len(words); i += 2 {
		size, err := strconv.Atoi(words[i+1])
		if err != nil {
			t.Fatal(err)
		}
		out = append(out, birth.Kind{Load: one(t, words[i]), Size: size})
	}
	return out
}

// like is so many like things.
func like[T any](n int, a T) []T {
	out := make([]T, n)
	for i := range out {
		out[i] = a
	}
	return out
}

// known is a fraction as the library has it.
func known(t *testing.T, a ratio.Ratio) *big.Rat {
	t.Helper()
	out, ok := new(big.Rat).SetString(a.Text())
	if !ok {
		t.Fatalf("no fraction: %q", a.Text())
	}
	return out
}

// words is fractions of the library, as ratio tells them.
func words(l []*big.Rat) string {
	var out []string
	for _, a := range l {
		out = append(out, a.RatString())
	}
	return strings.Join(out, " ")
}

// weighed is load^n / n! for each n up to so many, by the library.
func weighed(load *big.Rat, most int) []*big.Rat {
	out := []*big.Rat{big.NewRat(1, 1)}
	for n := 1; n <= most; n++ {
		up := new(big.Rat).Mul(out[n-1], load)
		out = append(out, up.Quo(up, big.NewRat(int64(n), 1)))
	}
	return out
}

// total is the sum of fractions.
func total(l []*big.Rat) *big.Rat {
	out := new(big.Rat)
	for _, a := range l {
		out.Add(out, a)
	}
	return out
}

// parts is fractions, each divided by all together.
func parts(l []*big.Rat) []*big.Rat {
	all := total(l)
	var out []*big.Rat
	for _, a := range l {
		out = append(out, new(big.Rat).Quo(a, all))
	}
	return out
}

// says fails unless an error is that Errno itself, as no place belongs to it.
func says(t *testing.T, err error, want api.Errno, what ...any) {
	t.Helper()
	if want == api.OK && err == nil {
		return
	}
	if err != error(want) {
		t.Errorf("%v: error %v, want %v", what, err, want)
	}
}

// are fails unless fractions are as wanted, with no error.
func are(t *testing.T, got []ratio.Ratio, err error, want string, what ...any) {
	t.Helper()
	if text := ratio.Words(got); err != nil || text != want {
		t.Errorf("%v: %.300q, error %v, want %.300q", what, text, err, want)
	}
}

// is fails unless a fraction is as wanted, with no error.
func is(t *testing.T, got ratio.Ratio, err error, want string, what ...any) {
	t.Helper()
	are(t, []ratio.Ratio{got}, err, want, what...)
}

// told is what a queue is, in the order of its fields.
func told(q birth.Queue) []ratio.Ratio {
	return []ratio.Ratio{q.Waits, q.Time, q.Number}
}

// drawn is a fraction from 0 on, that looks drawn.
func drawn(t *testing.T, r *rand.Rand, over, under int) ratio.Ratio {
	t.Helper()
	a, err := ratio.Of(r.Intn(over), 1+r.Intn(under))
	if err != nil {
		t.Fatal(err)
	}
	return a
}

// 6.1: ordinary numbers, noughts in up, and none at all.
func TestSteady(t *testing.T) {
	for _, c := range []struct{ up, down, want string }{
		{"", "", "1"},
		{"0", "1", "1 0"},
		{"1", "1", "1/2 1/2"},
		{"1/2", "3", "6/7 1/7"},
		{"2 2 2", "1 2 3", "3/19 6/19 6/19 4/19"},
		{"3 2 1", "1 1 1", "1/16 3/16 3/8 3/8"},
		{"0 5 7", "1 2 3", "1 0 0 0"},
		{"1 0 7", "1 2 3", "1/2 1/2 0 0"},
		{"1 1 0", "1 1 1", "1/3 1/3 1/3 0"},
		{tiny, "1", "9999999999999999999999999999999999999999/10000000000000000000000000000000000000000 1/10000000000000000000000000000000000000000"},
		{"1", tiny, "1/10000000000000000000000000000000000000000 9999999999999999999999999999999999999999/10000000000000000000000000000000000000000"},
	} {
		got, err := birth.Steady(list(t, c.up), list(t, c.down))
		are(t, got, err, c.want, "Steady", c.up, "/", c.down)
	}
	got, err := birth.Steady([]ratio.Ratio{}, nil)
	are(t, got, err, "1", "Steady of empty lists")
}

// 6.1: each number's chance times up is the next one's times down, and all are
// 1 together, for as many as there may be.
func TestSteadyBalance(t *testing.T) {
	r := rand.New(rand.NewSource(1))
	for _, n := range []int{1, 2, 3, 5, 8, 20, api.MaxSize - 1, api.MaxSize} {
		var up, down []ratio.Ratio
		for range n {
			up = append(up, drawn(t, r, 200, 9))
			down = append(down, drawn(t, r, 50, 9).Add(one(t, "1/7")))
		}
		got, err := birth.Steady(up, down)
		says(t, err, api.OK, "Steady", n)
		if len(got) != n+1 {
			t.Fatalf("Steady of %d: %d numbers", n, len(got))
		}
		for i := range n {
			if got[i].Mul(up[i]).Cmp(got[i+1].Mul(down[i])) != 0 {
				t.Errorf("Steady of %d: %d is left otherwise than come to", n, i)
			}
		}
		is(t, ratio.Sum(got...), nil, "1", "Steady together", n)
	}
}

// 6.1: wrong lists; of several errors the one that is told first.
func TestSteadyWrong(t *testing.T) {
	const most = api.MaxSize
	half, below := one(t, "1/2"), one(t, "-"+tiny)
	full := like(most, half)
	for _, c := range []struct {
		name     string
		up, down []ratio.Ratio
		want     api.Errno
	}{
		{"MaxSize", full, full, api.OK},
		{"one more", like(most+1, half), like(most+1, half), api.ErrLimit},
		{"one more in up alone", like(most+1, half), full, api.ErrLimit},
		{"many in up alone, with wrong numbers", like(most+1, below), nil, api.ErrLimit},
		{"one more in down alone", full, like(most+1, half), api.ErrForm},
		{"one more in down, none in up", nil, like(most+1, half), api.ErrForm},
		{"up longer", list(t, "1 1"), list(t, "1"), api.ErrForm},
		{"down longer", list(t, "1"), list(t, "1 1"), api.ErrForm},
		{"up alone", list(t, "1"), nil, api.ErrForm},
		{"down alone", nil, list(t, "1"), api.ErrForm},
		{"up longer, below 0", list(t, "-1 1"), list(t, "0"), api.ErrForm},
		{"down longer, 0", list(t, "1"), list(t, "0 1"), api.ErrForm},
		{"up below 0", list(t, "-1"), list(t, "1"), api.ErrArg},
		{"up just below 0", []ratio.Ratio{below}, list(t, "1"), api.ErrArg},
		{"down 0", list(t, "1"), list(t, "0"), api.ErrArg},
		{"down 0, up 0", list(t, "0"), list(t, "0"), api.ErrArg},
		{"down below 0", list(t, "1"), list(t, "-1"), api.ErrArg},
		{"both below 0", list(t, "-1"), list(t, "-1"), api.ErrArg},
		{"last up below 0", list(t, "1 1 -1"), list(t, "1 1 1"), api.ErrArg},
		{"last down 0", list(t, "1 1 1"), list(t, "1 1 0"), api.ErrArg},
		{"down 0 behind a nought in up", list(t, "0 1"), list(t, "1 0"), api.ErrArg},
		{"MaxSize, down 0 at the end", full, append(like(most-1, half), ratio.Ratio{}), api.ErrArg},
	} {
		got, err := birth.Steady(c.up, c.down)
		says(t, err, c.want, "Steady", c.name)
		if c.want != api.OK && len(got) != 0 {
			t.Errorf("Steady of %s: %s beside an error", c.name, ratio.Words(got))
		}
	}
}

// 6.2: ordinary loads, none, and no servers.
func TestLost(t *testing.T) {
	for _, c := range []struct {
		load    string
		servers int
		want    string
	}{
		{"2", 3, "4/19"},
		{"0", 0, "1"},
		{"5", 0, "1"},
		{"0", 1, "0"},
		{"0", api.MaxSize, "0"},
		{"1", 1, "1/2"},
		{"3/4", 1, "3/7"},
		{"1", 2, "1/5"},
		{"3", 3, "9/26"},
		{"10", 2, "50/61"},
		{tiny, 1, "1/10000000000000000000000000000000000000000"},
	} {
		got, err := birth.Lost(one(t, c.load), c.servers)
		is(t, got, err, c.want, "Lost", c.load, c.servers)
	}
}

// 6.2: the document's sums, by the library, for any number of servers.
func TestLostSums(t *testing.T) {
	r := rand.New(rand.NewSource(2))
	for servers := range api.MaxSize + 1 {
		load := drawn(t, r, 300, 9)
		w := weighed(known(t, load), servers)
		want := new(big.Rat).Quo(w[servers], total(w))
		got, err := birth.Lost(load, servers)
		is(t, got, err, want.RatString(), "Lost", load.Text(), servers)
	}
}

// loaded is a load and servers, and what is said of them.
type loaded struct {
	load    string
	servers int
	want    api.Errno
}

// badLoads is what Lost and Wait both refuse.
func badLoads() []loaded {
	return []loaded{
		{"-1", 3, api.ErrArg},
		{"-" + tiny, 3, api.ErrArg},
		{"-1", 0, api.ErrArg},
		{"-1", -1, api.ErrArg},
		{"-1", api.MaxSize + 1, api.ErrArg},
		{"0", -1, api.ErrLimit},
		{"2", -1, api.ErrLimit},
		{"2", api.MaxSize + 1, api.ErrLimit},
		{"1000", api.MaxSize + 1, api.ErrLimit},
		{"2", math.MinInt, api.ErrLimit},
		{"2", math.MaxInt, api.ErrLimit},
	}
}

// 6.2: wrong numbers, and two of them.
func TestLostWrong(t *testing.T) {
	for _, c := range badLoads() {
		got, err := birth.Lost(one(t, c.load), c.servers)
		says(t, err, c.want, "Lost", c.load, c.servers)
		if got.Sign() != 0 {
			t.Errorf("Lost(%s, %d): %s beside an error", c.load, c.servers, got.Text())
		}
	}
}

// 6.3: ordinary loads, and none.
func TestWait(t *testing.T) {
	for _, c := range []struct {
		load    string
		servers int
		want    string
	}{
		{"2", 3, "4/9 4/9 8/9"},
		{"0", 1, "0 0 0"},
		{"0", 7, "0 0 0"},
		{"0", api.MaxSize, "0 0 0"},
		{"1/2", 1, "1/2 1 1/2"},
		{"3/4", 1, "3/4 3 9/4"},
		{"1", 2, "1/3 1/3 1/3"},
		{"999/1000", 1, "999/1000 999 998001/1000"},
	} {
		got, err := birth.Wait(one(t, c.load), c.servers)
		are(t, told(got), err, c.want, "Wait", c.load, c.servers)
	}
}

// waited is the document's sums for a queue, by the library.
func waited(load *big.Rat, servers int) []*big.Rat {
	all := big.NewRat(int64(servers), 1)
	spare := new(big.Rat).Sub(all, load)
	w := weighed(load, servers)
	last := new(big.Rat).Mul(w[servers], all)
	last.Quo(last, spare)
	waits := new(big.Rat).Quo(last, new(big.Rat).Add(total(w[:servers]), last))
	time := new(big.Rat).Quo(waits, spare)
	return []*big.Rat{waits, time, new(big.Rat).Mul(time, load)}
}

// 6.3: the same for any number of servers, with a load that is anything below
// them.
func TestWaitSums(t *testing.T) {
	r := rand.New(rand.NewSource(3))
	for servers := 1; servers <= api.MaxSize; servers++ {
		load, err := ratio.Of(r.Intn(servers*60), 60)
		says(t, err, api.OK, "Of")
		got, err := birth.Wait(load, servers)
		are(t, told(got), err, words(waited(known(t, load), servers)), "Wait", load.Text(), servers)
	}
}

// 6.3: the same with a load just below the servers.
func TestWaitJustBelow(t *testing.T) {
	for _, servers := range []int{1, 2, 3, api.MaxMany, api.MaxSize} {
		load := ratio.Whole(servers).Sub(one(t, tiny))
		got, err := birth.Wait(load, servers)
		are(t, told(got), err, words(waited(known(t, load), servers)), "Wait", load.Text(), servers)
	}
}

// 6.3: the long run of a queue with very many places to wait is all but that
// of one without a bound: by Steady, which knows nothing of Wait.
func TestWaitSteady(t *testing.T) {
	load, servers := one(t, "3/2"), 3
	up := like(api.MaxSize, load)
	var down []ratio.Ratio
	for n := range api.MaxSize {
		down = append(down, ratio.Whole(min(n+1, servers)))
	}
	people, err := birth.Steady(up, down)
	says(t, err, api.OK, "Steady")
	var number ratio.Ratio
	for n := servers; n < len(people); n++ {
		number = number.Add(people[n].Mul(ratio.Whole(n - servers)))
	}
	queue, err := birth.Wait(load, servers)
	says(t, err, api.OK, "Wait")
	near := one(t, "1/"+"1"+strings.Repeat("0", 20))
	for i, off := range []ratio.Ratio{
		queue.Waits.Sub(ratio.Sum(people[servers:]...)),
		queue.Number.Sub(number),
		queue.Time.Mul(load).Sub(number),
	} {
		if off.Cmp(near) > 0 || off.Cmp(ratio.Whole(0).Sub(near)) < 0 {
			t.Errorf("Wait, number %d: off by %s", i, off.Text())
		}
	}
}

// 6.3: what Lost says, and loads that are not below the servers.
func TestWaitWrong(t *testing.T) {
	bad := append(badLoads(), []loaded{
		{"0", 0, api.ErrLoad},
		{tiny, 0, api.ErrLoad},
		{"1", 1, api.ErrLoad},
		{"3", 3, api.ErrLoad},
		{"31/10", 3, api.ErrLoad},
		{"1000", 3, api.ErrLoad},
		{"100", api.MaxSize, api.ErrLoad},
		{"101", api.MaxSize, api.ErrLoad},
	}...)
	for _, c := range bad {
		got, err := birth.Wait(one(t, c.load), c.servers)
		says(t, err, c.want, "Wait", c.load, c.servers)
		if ratio.Words(told(got)) != "0 0 0" {
			t.Errorf("Wait(%s, %d): %s beside an error", c.load, c.servers, ratio.Words(told(got)))
		}
	}
	beyond := ratio.Whole(3).Add(one(t, tiny))
	_, err := birth.Wait(beyond, 3)
	says(t, err, api.ErrLoad, "Wait just beyond")
}

// 6.4: ordinary kinds, none, no lines, no load, and sizes beyond all lines.
func TestShare(t *testing.T) {
	for _, c := range []struct {
		kinds       string
		lines       int
		taken, lost string
	}{
		{"1 1 1/2 2", 3, "3/11 3/11 3/11 2/11", "2/11 5/11"},
		{"1/2 2 1 1", 3, "3/11 3/11 3/11 2/11", "5/11 2/11"},
		{"", 0, "1", ""},
		{"", 3, "1 0 0 0", ""},
		{"2 1", 0, "1", "1"},
		{"2 1 0 100 0 1", 0, "1", "1 1 1"},
		{"2 1", 3, "3/19 6/19 6/19 4/19", "4/19"},
		{"1 1 1 1", 3, "3/19 6/19 6/19 4/19", "4/19 4/19"},
		{"0 1", 3, "1 0 0 0", "0"},
		{"0 3", 3, "1 0 0 0", "0"},
		{"0 4", 3, "1 0 0 0", "1"},
		{"5 4", 3, "1 0 0 0", "1"},
		{"5 100", 3, "1 0 0 0", "1"},
		{"5 100", 99, "1" + strings.Repeat(" 0", 99), "1"},
		{"5 100", 100, "1/6" + strings.Repeat(" 0", 99) + " 5/6", "5/6"},
		{"1 3", 3, "1/2 0 0 1/2", "1/2"},
		{"2 2", 7, "3/19 0 6/19 0 6/19 0 4/19 0", "4/19"},
		{"1 1 5 4", 2, "2/5 2/5 1/5", "1/5 1"},
		{"1 2 0 1 0 2 0 3", 3, "1/2 0 1/2 0", "1/2 0 1/2 1/2"},
	} {
		taken, lost, err := birth.Share(kinds(t, c.kinds), c.lines)
		are(t, taken, err, c.taken, "Share", c.kinds, "of", c.lines, "taken")
		are(t, lost, err, c.lost, "Share", c.kinds, "of", c.lines, "lost")
	}
	taken, lost, err := birth.Share([]birth.Kind{}, 1)
	are(t, taken, err, "1 0", "Share of an empty list")
	are(t, lost, err, "", "Share of an empty list, lost")
}

// counted goes through all ways to have calls, kind by kind, and adds what
// each weighs to how many lines it takes.
func counted(sum []*big.Rat, w [][]*big.Rat, sizes []int, taken int, weight *big.Rat) {
	if len(sizes) == 0 {
		sum[taken].Add(sum[taken], weight)
		return
	}
	for n := 0; taken+n*sizes[0] < len(sum); n++ {
		counted(sum, w[1:], sizes[1:], taken+n*sizes[0], new(big.Rat).Mul(weight, w[0][n]))
	}
}

// shared is what Share asks for, all ways gone through one by one.
func shared(t *testing.T, l []birth.Kind, lines int) (taken, lost []*big.Rat) {
	t.Helper()
	sum := make([]*big.Rat, lines+1)
	for i := range sum {
		sum[i] = new(big.Rat)
	}
	var w [][]*big.Rat
	var sizes []int
	for _, kind := range l {
		w = append(w, weighed(known(t, kind.Load), lines))
		sizes = append(sizes, kind.Size)
	}
	counted(sum, w, sizes, 0, big.NewRat(1, 1))
	taken = parts(sum)
	for _, kind := range l {
		out := new(big.Rat)
		for n, chance := range taken {
			if lines-n < kind.Size {
				out.Add(out, chance)
			}
		}
		lost = append(lost, out)
	}
	return taken, lost
}

// 6.4: drawn kinds, against all ways gone through.
func TestShareTried(t *testing.T) {
	r := rand.New(rand.NewSource(4))
	for range 300 {
		var l []birth.Kind
		for range r.Intn(5) {
			l = append(l, birth.Kind{Load: drawn(t, r, 20, 9), Size: 1 + r.Intn(5)})
		}
		lines := r.Intn(12)
		taken, lost, err := birth.Share(l, lines)
		wantTaken, wantLost := shared(t, l, lines)
		are(t, taken, err, words(wantTaken), "Share", l, lines)
		are(t, lost, err, words(wantLost), "Share", l, lines)
	}
}

// 6.4: as many kinds and lines as there may be. Calls of one size are as one
// kind, and of size 1 lost as Lost tells.
func TestShareMost(t *testing.T) {
	var l []birth.Kind
	var load ratio.Ratio
	for i := range api.MaxMany {
		one, err := ratio.Of(i+1, 3+i%4)
		says(t, err, api.OK, "Of")
		l = append(l, birth.Kind{Load: one, Size: 1})
		load = load.Add(one)
	}
	taken, lost, err := birth.Share(l, api.MaxSize)
	says(t, err, api.OK, "Share of MaxMany")
	w := weighed(known(t, load), api.MaxSize)
	are(t, taken, err, words(parts(w)), "Share of MaxMany, taken")
	gone, err := birth.Lost(load, api.MaxSize)
	are(t, lost, err, strings.TrimSpace(strings.Repeat(gone.Text()+" ", api.MaxMany)), "Share of MaxMany, lost")
	for i := range l {
		l[i].Size = 1 + i*5
	}
	taken, lost, err = birth.Share(l, api.MaxSize)
	is(t, ratio.Sum(taken...), err, "1", "Share of MaxMany, together")
	if len(taken) != api.MaxSize+1 || len(lost) != api.MaxMany {
		t.Errorf("Share of MaxMany: %d and %d numbers", len(taken), len(lost))
	}
	for i, kind := range l {
		is(t, lost[i].Add(ratio.Sum(taken[:api.MaxSize-kind.Size+1]...)), nil, "1", "Share of MaxMany", i)
	}
}

// 6.4: wrong kinds and lines; of several errors the one that is told first.
func TestShareWrong(t *testing.T) {
	good := birth.Kind{Load: ratio.Whole(1), Size: 1}
	below := birth.Kind{Load: one(t, "-"+tiny), Size: 1}
	none := birth.Kind{Load: ratio.Whole(1), Size: 0}
	big := birth.Kind{Load: ratio.Whole(1), Size: api.MaxSize + 1}
	both := birth.Kind{Load: one(t, "-1"), Size: 0}
	for _, c := range []struct {
		name  string
		l     []birth.Kind
		lines int
		want  api.Errno
	}{
		{"MaxMany kinds", like(api.MaxMany, good), 3, api.OK},
		{"one more", like(api.MaxMany+1, good), 3, api.ErrLimit},
		{"one more, wrong ones", like(api.MaxMany+1, both), 3, api.ErrLimit},
		{"one more, and no lines", like(api.MaxMany+1, good), -1, api.ErrLimit},
		{"lines below 0", []birth.Kind{good}, -1, api.ErrLimit},
		{"lines below 0, no kinds", nil, -1, api.ErrLimit},
		{"MaxSize lines", []birth.Kind{good}, api.MaxSize, api.OK},
		{"one line more", []birth.Kind{good}, api.MaxSize + 1, api.ErrLimit},
		{"one line more, no kinds", nil, api.MaxSize + 1, api.ErrLimit},
		{"least lines", []birth.Kind{good}, math.MinInt, api.ErrLimit},
		{"most lines", []birth.Kind{good}, math.MaxInt, api.ErrLimit},
		{"wrong lines, wrong load", []birth.Kind{below}, -1, api.ErrLimit},
		{"wrong lines, wrong size", []birth.Kind{none}, api.MaxSize + 1, api.ErrLimit},
		{"load below 0", []birth.Kind{below}, 3, api.ErrArg},
		{"last load below 0", []birth.Kind{good, good, below}, 3, api.ErrArg},
		{"load below 0, no lines", []birth.Kind{below}, 0, api.ErrArg},
		{"size 0", []birth.Kind{none}, 3, api.ErrRange},
		{"size 0, no load", []birth.Kind{{}}, 3, api.ErrRange},
		{"size below 0", []birth.Kind{{Load: ratio.Whole(1), Size: -1}}, 3, api.ErrRange},
		{"least size", []birth.Kind{{Load: ratio.Whole(1), Size: math.MinInt}}, 3, api.ErrRange},
		{"size MaxSize", []birth.Kind{{Load: ratio.Whole(1), Size: api.MaxSize}}, 3, api.OK},
		{"size one more", []birth.Kind{big}, 3, api.ErrRange},
		{"size one more, of all lines", []birth.Kind{big}, api.MaxSize, api.ErrRange},
		{"greatest size", []birth.Kind{{Load: ratio.Whole(1), Size: math.MaxInt}}, 3, api.ErrRange},
		{"last size 0", []birth.Kind{good, good, none}, 3, api.ErrRange},
		{"load and size of one", []birth.Kind{both}, 3, api.ErrArg},
		{"load ahead of size", []birth.Kind{good, below, none}, 3, api.ErrArg},
		{"size ahead of load", []birth.Kind{good, none, below}, 3, api.ErrRange},
		{"size ahead of both", []birth.Kind{big, both}, 3, api.ErrRange},
	} {
		taken, lost, err := birth.Share(c.l, c.lines)
		says(t, err, c.want, "Share", c.name)
		if c.want != api.OK && len(taken)+len(lost) != 0 {
			t.Errorf("Share of %s: %s, %s beside an error", c.name, ratio.Words(taken), ratio.Words(lost))
		}
	}
}

// spoil writes over all that a list has, what stands behind its length too.
func spoil[T any](l []T, with T) {
	l = l[:cap(l)]
	for i := range l {
		l[i] = with
	}
}

// P4: what is handed in stays as it is, behind its length too.
func TestArgumentsStay(t *testing.T) {
	up, down := list(t, "1 2 3 4 5"), list(t, "5 4 3 2 1")
	calls := kinds(t, "1 1 1/2 2 3 1 4 4")
	_, err := birth.Steady(up[:2], down[:2])
	says(t, err, api.OK, "Steady")
	_, _, err = birth.Share(calls[:2], 9)
	says(t, err, api.OK, "Share")
	are(t, up, nil, "1 2 3 4 5", "up")
	are(t, down, nil, "5 4 3 2 1", "down")
	for i, want := range kinds(t, "1 1 1/2 2 3 1 4 4") {
		if calls[i].Size != want.Size || calls[i].Load.Cmp(want.Load) != 0 {
			t.Errorf("kind %d was changed", i)
		}
	}
}

// P4: answers are the caller's: to write over one changes no other, and no
// later one.
func TestAnswersFresh(t *testing.T) {
	nine := ratio.Whole(9)
	up, down := list(t, "1 1"), list(t, "1 1")
	for range 2 {
		people, err := birth.Steady(up, down)
		are(t, people, err, "1/3 1/3 1/3", "Steady")
		spoil(people, nine)
		are(t, append(up, down...), nil, "1 1 1 1", "up and down")
	}
	for range 2 {
		taken, lost, err := birth.Share(kinds(t, "1 1 1/2 2"), 3)
		spoil(lost, nine)
		are(t, taken, err, "3/11 3/11 3/11 2/11", "taken")
		_, lost, err = birth.Share(kinds(t, "1 1 1/2 2"), 3)
		spoil(taken, nine)
		are(t, lost, err, "2/11 5/11", "lost")
	}
	taken, lost, err := birth.Share(kinds(t, "1 1 1/2 2"), 3)
	spoil(taken, nine)
	are(t, lost, err, "2/11 5/11", "lost beside taken")
}
