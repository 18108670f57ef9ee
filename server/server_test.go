package server_test

import (
	"math/big"
	"math/rand"
	"slices"
	"strconv"
	"strings"
	"testing"

	"foresight/api"
	"foresight/chance"
	"foresight/ratio"
	"foresight/server"
)

// tiny is the least fraction above 0 that Parse reads.
var tiny = "1/" + strings.Repeat("9", api.MaxDigits)

// one is the fraction of a text that must be one.
func one(t *testing.T, text string) ratio.Ratio {
	t.Helper()
	a, err := ratio.Parse(text)
	if err != nil {
		t.Fatalf("Parse(%q): %v", text, err)
	}
	return a
}

// list reads fractions, apart by spaces.
func list(t *testing.T, text string) []ratio.Ratio {
	t.Helper()
	var out []ratio.Ratio
	for word := range strings.FieldsSeq(text) {
		out = append(out, one(t, word))
	}
	return out
}

// classes reads classes, apart by semicolons: each a rate, and its law.
func classes(t *testing.T, text string) []server.Class {
	t.Helper()
	var out []server.Class
	for part := range strings.SplitSeq(text, ";") {
		l := list(t, part)
		if len(l) > 0 {
			out = append(out, server.Class{Rate: l[0], Law: l[1:]})
		}
	}
	return out
}

// like is so many like things.
func like[T any](n int, a T) []T {
	out := make([]T, n)
	for i := range out {
		out[i] = a
	}
	return out
}

// surely is the law of one amount.
func surely(amount int) chance.Law {
	return append(make(chance.Law, amount), ratio.Whole(1))
}

// says fails unless an error is that Errno itself, as no place belongs to it.
func says(t *testing.T, err error, want api.Errno, what ...any) {
	t.Helper()
	if want == api.OK && err == nil {
		return
	}
	if err != error(want) {
		t.Errorf("%v: error %v, want %v", what, err, want)
	}
}

// are fails unless fractions are as wanted, with no error.
func are(t *testing.T, got []ratio.Ratio, err error, want string, what ...any) {
	t.Helper()
	if text := ratio.Words(got); err != nil || text != want {
		t.Errorf("%v: %.300q, error %v, want %.300q", what, text, err, want)
	}
}

// is fails unless a fraction is as wanted, with no error.
func is(t *testing.T, got ratio.Ratio, err error, want string, what ...any) {
	t.Helper()
	are(t, []ratio.Ratio{got}, err, want, what...)
}

// numbers writes whole numbers, with blanks between.
func numbers(l []int) string {
	var out []string
	for _, n := range l {
		out = append(out, strconv.Itoa(n))
	}
	return strings.Join(out, " ")
}

// goes fails unless an order is as wanted, with no error.
func goes(t *testing.T, got []int, err error, want string, what ...any) {
	t.Helper()
	if text := numbers(got); err != nil || text != want {
		t.Errorf("%v: %q, error %v, want %q", what, text, err, want)
	}
}

// known is a fraction as the library has it.
func known(t *testing.T, a ratio.Ratio) *big.Rat {
	t.Helper()
	out, ok := new(big.Rat).SetString(a.Text())
	if !ok {
		t.Fatalf("no fraction: %q", a.Text())
	}
	return out
}

// words is fractions of the library, as ratio tells them.
func words(l []*big.Rat) string {
	var out []string
	for _, a := range l {
		out = append(out, a.RatString())
	}
	return strings.Join(out, " ")
}

// total is the sum of fractions.
func total(l []*big.Rat) *big.Rat {
	out := new(big.Rat)
	for _, a := range l {
		out.Add(out, a)
	}
	return out
}

// measured is each class's mean, load and square, by the library.
func measured(t *testing.T, l []server.Class) (means, loads, squares []*big.Rat) {
	t.Helper()
	for _, class := range l {
		first, second := new(big.Rat), new(big.Rat)
		for amount, share := range class.Law {
			n := big.NewRat(int64(amount), 1)
			once := new(big.Rat).Mul(known(t, share), n)
			first.Add(first, once)
			second.Add(second, new(big.Rat).Mul(once, n))
		}
		rate := known(t, class.Rate)
		means = append(means, first)
		loads = append(loads, new(big.Rat).Mul(rate, first))
		squares = append(squares, new(big.Rat).Mul(rate, second))
	}
	return means, loads, squares
}

// rest is 1 less all of those together.
func rest(l []*big.Rat) *big.Rat {
	return new(big.Rat).Sub(big.NewRat(1, 1), total(l))
}

// twice is 2 a b.
func twice(a, b *big.Rat) *big.Rat {
	out := new(big.Rat).Mul(a, b)
	return out.Add(out, out)
}

// wanted is what the document's words ask of Load, Wait, Waits and Stays, by
// the library, where the loads together are below 1.
func wanted(t *testing.T, l []server.Class) (load, wait string, waits, stays string) {
	t.Helper()
	means, loads, squares := measured(t, l)
	all := new(big.Rat).Quo(total(squares), twice(big.NewRat(1, 1), rest(loads)))
	var each, there []*big.Rat
	for i := range l {
		a, b := rest(loads[:i]), rest(loads[:i+1])
		each = append(each, new(big.Rat).Quo(total(squares), twice(a, b)))
		stay := new(big.Rat).Quo(means[i], a)
		there = append(there, stay.Add(stay, new(big.Rat).Quo(total(squares[:i+1]), twice(a, b))))
	}
	return total(loads).RatString(), all.RatString(), words(each), words(there)
}

// matches fails unless all four functions answer what the document's words
// ask of classes that the server can do.
func matches(t *testing.T, l []server.Class, what ...any) {
	t.Helper()
	load, wait, waits, stays := wanted(t, l)
	a, err := server.Load(l)
	is(t, a, err, load, "Load", what)
	b, err := server.Wait(l)
	is(t, b, err, wait, "Wait", what)
	c, err := server.Waits(l)
	are(t, c, err, waits, "Waits", what)
	d, err := server.Stays(l)
	are(t, d, err, stays, "Stays", what)
}

// drawn is classes that look drawn, whose loads together are below 1.
func drawn(t *testing.T, r *rand.Rand, many int) []server.Class {
	t.Helper()
	var out []server.Class
	for range many {
		parts := make([]int, 1+r.Intn(6))
		all := 0
		for i := range parts {
			parts[i] = r.Intn(9)
			all += parts[i]
		}
		parts[len(parts)-1]++
		all++
		var law chance.Law
		for _, part := range parts {
			share, err := ratio.Of(part, all)
			says(t, err, api.OK, "Of")
			law = append(law, share)
		}
		// A time is at most 5: with many classes each comes the less often.
		rate, err := ratio.Of(r.Intn(12), 12*5*many)
		says(t, err, api.OK, "Of")
		out = append(out, server.Class{Rate: rate, Law: law})
	}
	return out
}

// reorder is classes in an order.
func reorder(l []server.Class, order []int) []server.Class {
	var out []server.Class
	for _, i := range order {
		out = append(out, l[i])
	}
	return out
}

// orders is all orders of so many.
func orders(n int) [][]int {
	if n == 0 {
		return [][]int{nil}
	}
	var out [][]int
	for _, less := range orders(n - 1) {
		for place := range n {
			out = append(out, slices.Insert(slices.Clone(less), place, n-1))
		}
	}
	return out
}

// 7.1, 7.2: ordinary classes, and the edges: rates and times of 0.
func TestLong(t *testing.T) {
	for _, c := range []struct{ classes, load, wait, waits, stays string }{
		{"1/4 0 1/2 0 1/2", "1/2", "5/4", "5/4", "13/4"},
		{"1/2 0 1", "1/2", "1/2", "1/2", "3/2"},
		{"1/4 0 0 1", "1/2", "1", "1", "3"},
		{"0 0 1", "0", "0", "0", "1"},
		{"0 1/2 0 0 1/2", "0", "0", "0", "3/2"},
		{"7 1", "0", "0", "0", "0"},
		{"7 1 0 0", "0", "0", "0", "0"},
		{"0 1", "0", "0", "0", "0"},
		{"1/4 0 1;1/4 0 0 1", "3/4", "5/2", "5/6 10/3", "7/6 6"},
		{"1/4 0 0 1;1/4 0 1", "3/4", "5/2", "5/4 5", "3 7"},
		{"1/4 0 1;0 0 0 1;1/4 0 1", "1/2", "1/2", "1/3 4/9 2/3", "7/6 26/9 2"},
		{"1 1;1/2 0 1;3 1", "1/2", "1/2", "1/4 1/2 1", "0 3/2 1"},
	} {
		l := classes(t, c.classes)
		load, err := server.Load(l)
		is(t, load, err, c.load, "Load", c.classes)
		wait, err := server.Wait(l)
		is(t, wait, err, c.wait, "Wait", c.classes)
		waits, err := server.Waits(l)
		are(t, waits, err, c.waits, "Waits", c.classes)
		stays, err := server.Stays(l)
		are(t, stays, err, c.stays, "Stays", c.classes)
		matches(t, l, c.classes)
	}
}

// 7.1, 7.2: drawn classes, up to as many as there may be, against the
// document's words by the library.
func TestLongDrawn(t *testing.T) {
	r := rand.New(rand.NewSource(1))
	for many := 1; many <= api.MaxMany; many++ {
		for range 10 {
			matches(t, drawn(t, r, many), many)
		}
	}
}

// 7.1, 7.2: laws as long as they may be.
func TestLongMost(t *testing.T) {
	rate, err := ratio.Of(1, api.MaxMany*api.MaxSize+1)
	says(t, err, api.OK, "Of")
	l := like(api.MaxMany, server.Class{Rate: rate, Law: surely(api.MaxSize)})
	load, err := server.Load(l)
	is(t, load, err, "2000/2001", "Load")
	matches(t, l, "MaxMany of MaxSize")

	share, err := ratio.Of(1, api.MaxSize+1)
	says(t, err, api.OK, "Of")
	l = classes(t, "1/400 0 0 1;1/51 1/2 1/2")
	l[0].Law = like(api.MaxSize+1, share)
	matches(t, l, "all times alike")
}

// 7.1, 7.2: loads just below 1 together.
func TestJustBelow(t *testing.T) {
	left := one(t, tiny)
	half := one(t, "1/2")
	for _, l := range [][]server.Class{
		{{Rate: ratio.Whole(1).Sub(left), Law: surely(1)}},
		{{Rate: half, Law: surely(1)}, {Rate: half.Sub(left), Law: surely(1)}},
		{{Rate: half.Sub(left), Law: surely(1)}, {Rate: half, Law: surely(1)}},
	} {
		load, err := server.Load(l)
		is(t, load.Add(left), err, "1", "Load and what is left")
		matches(t, l, "just below")
	}
}

// 7.1: loads of 1 and more together: Load and Best tell them, the others don't.
func TestTooMuch(t *testing.T) {
	more := ratio.Whole(1).Add(one(t, tiny))
	for _, c := range []struct {
		name string
		l    []server.Class
		load string
	}{
		{"one at 1", classes(t, "1 0 1"), "1"},
		{"one at 1 by its times", classes(t, "1/2 0 0 1"), "1"},
		{"one just beyond", []server.Class{{Rate: more, Law: surely(1)}}, more.Text()},
		{"one far beyond", classes(t, "5 0 0 0 1"), "15"},
		{"two at 1", classes(t, "1/2 0 1;1/4 0 0 1"), "1"},
		{"the last to 1", classes(t, "1/4 0 1;1/4 0 1;1/2 0 1"), "1"},
		{"the last beyond", classes(t, "1/4 0 1;1/4 0 1;1 0 1"), "3/2"},
		{"the last far beyond", classes(t, "1/4 0 1;1/4 0 1;9 0 0 1"), "37/2"},
		{"the first at 1, then none", classes(t, "1 0 1;0 0 1"), "1"},
		{"the first beyond, then more", classes(t, "2 0 1;2 0 1"), "4"},
		{"MaxMany at 1", like(api.MaxMany, classes(t, "1/20 0 1")[0]), "1"},
	} {
		load, err := server.Load(c.l)
		is(t, load, err, c.load, "Load", c.name)
		wait, err := server.Wait(c.l)
		says(t, err, api.ErrLoad, "Wait", c.name)
		waits, err := server.Waits(c.l)
		says(t, err, api.ErrLoad, "Waits", c.name)
		stays, err := server.Stays(c.l)
		says(t, err, api.ErrLoad, "Stays", c.name)
		if wait.Sign() != 0 || len(waits)+len(stays) != 0 {
			t.Errorf("%s: %s, %s, %s beside ErrLoad", c.name, wait.Text(), ratio.Words(waits), ratio.Words(stays))
		}
		order, err := server.Best(c.l, make([]ratio.Ratio, len(c.l)))
		says(t, err, api.OK, "Best", c.name)
		if len(order) != len(c.l) {
			t.Errorf("Best of %s: %v", c.name, order)
		}
	}
}

// refused fails unless all functions say one thing of classes, with nothing
// beside it, whatever costs there are.
func refused(t *testing.T, l []server.Class, want api.Errno, name string) {
	t.Helper()
	load, err := server.Load(l)
	says(t, err, want, "Load", name)
	wait, err := server.Wait(l)
	says(t, err, want, "Wait", name)
	waits, err := server.Waits(l)
	says(t, err, want, "Waits", name)
	stays, err := server.Stays(l)
	says(t, err, want, "Stays", name)
	if load.Sign() != 0 || wait.Sign() != 0 || len(waits)+len(stays) != 0 {
		t.Errorf("%s: %s, %s, %s, %s beside an error", name, load.Text(), wait.Text(), ratio.Words(waits), ratio.Words(stays))
	}
	below := ratio.Whole(-1)
	for _, costs := range [][]ratio.Ratio{like(len(l), ratio.Whole(1)), like(len(l), below), like(len(l)+1, below), nil} {
		order, err := server.Best(l, costs)
		says(t, err, want, "Best", name, len(costs), "costs")
		if len(order) != 0 {
			t.Errorf("Best of %s: %v beside an error", name, order)
		}
	}
}

// 7.1: how many classes there may be.
func TestHowMany(t *testing.T) {
	good := classes(t, "1/30 0 1")[0]
	refused(t, nil, api.ErrLimit, "no class")
	refused(t, []server.Class{}, api.ErrLimit, "an empty list")
	refused(t, like(api.MaxMany+1, good), api.ErrLimit, "one more than MaxMany")
	refused(t, like(5*api.MaxMany, good), api.ErrLimit, "many more")
	refused(t, like(api.MaxMany+1, server.Class{}), api.ErrLimit, "one more, without laws")
	refused(t, like(api.MaxMany+1, classes(t, "-1 2")[0]), api.ErrLimit, "one more, wrong ones")
	l := like(api.MaxMany, good)
	matches(t, l, "MaxMany")
	order, err := server.Best(l, like(api.MaxMany, ratio.Whole(1)))
	goes(t, order, err, "0 1 2 3 4 5 6 7 8 9 10 11 12 13 14 15 16 17 18 19", "Best of MaxMany")
}

// wrong is classes of which each has something that may not be, by its name.
type wrong struct {
	name  string
	class server.Class
	want  api.Errno
}

// wrongs is all ways in which a class may be wrong.
func wrongs(t *testing.T) []wrong {
	t.Helper()
	some, below := one(t, "1/30"), one(t, "-"+tiny)
	share, err := ratio.Of(1, api.MaxSize+2)
	says(t, err, api.OK, "Of")
	long := like(api.MaxSize+2, share)
	return []wrong{
		{"rate below 0", server.Class{Rate: ratio.Whole(-1), Law: surely(1)}, api.ErrArg},
		{"rate just below 0", server.Class{Rate: below, Law: surely(1)}, api.ErrArg},
		{"rate below 0, time 0", server.Class{Rate: ratio.Whole(-1), Law: surely(0)}, api.ErrArg},
		{"no law", server.Class{Rate: some}, api.ErrLimit},
		{"zero value", server.Class{}, api.ErrLimit},
		{"empty law", server.Class{Rate: some, Law: chance.Law{}}, api.ErrLimit},
		{"law too long", server.Class{Rate: some, Law: long}, api.ErrLimit},
		{"law too long by noughts", server.Class{Rate: some, Law: append(surely(1), make(chance.Law, api.MaxSize)...)}, api.ErrLimit},
		{"law below 0", server.Class{Rate: some, Law: list(t, "2 -1")}, api.ErrArg},
		{"law just below 0", server.Class{Rate: some, Law: chance.Law{ratio.Whole(1).Sub(below), below}}, api.ErrArg},
		{"law below 0, too much", server.Class{Rate: some, Law: list(t, "-1 5")}, api.ErrArg},
		{"law too little", server.Class{Rate: some, Law: list(t, "0 1/2")}, api.ErrSum},
		{"law too much", server.Class{Rate: some, Law: list(t, "1 1")}, api.ErrSum},
		{"law just too little", server.Class{Rate: some, Law: chance.Law{ratio.Whole(1).Add(below)}}, api.ErrSum},
		{"law of noughts", server.Class{Rate: some, Law: list(t, "0 0 0")}, api.ErrSum},
		{"wrong law, rate 0", server.Class{Law: list(t, "0 1/2")}, api.ErrSum},
		{"rate below 0, no law", server.Class{Rate: below}, api.ErrArg},
		{"rate below 0, law too little", server.Class{Rate: below, Law: list(t, "0 1/2")}, api.ErrArg},
		{"law too long, below 0", server.Class{Rate: some, Law: like(api.MaxSize+2, below)}, api.ErrLimit},
	}
}

// 7.1: wrong classes, each alone, first, between others and last; also where
// the others bring too much load.
func TestWrongClass(t *testing.T) {
	good := classes(t, "1/30 0 1/2 1/2")[0]
	much := classes(t, "3 0 1/2 1/2")[0]
	for _, w := range wrongs(t) {
		refused(t, []server.Class{w.class}, w.want, w.name+", alone")
		for _, beside := range []server.Class{good, much} {
			for place := range api.MaxMany {
				l := like(api.MaxMany, beside)
				l[place] = w.class
				refused(t, l, w.want, w.name+" at "+strconv.Itoa(place))
			}
		}
	}
}

// 7.1: of two wrong classes the first one's error, wholly ahead of the next
// one's.
func TestWrongTwo(t *testing.T) {
	good := classes(t, "1/30 0 1/2 1/2")[0]
	for _, a := range wrongs(t) {
		for _, b := range wrongs(t) {
			refused(t, []server.Class{good, a.class, good, b.class}, a.want, a.name+" ahead of "+b.name)
		}
	}
}

// 7.1: a law as long as it may be is no wrong one, nor one with noughts.
func TestLawLength(t *testing.T) {
	l := classes(t, "1/400 0 1;1/4 0 1")
	l[0].Law = append(surely(1), make(chance.Law, api.MaxSize-1)...)
	matches(t, l, "noughts up to MaxSize")
	load, err := server.Load(l)
	is(t, load, err, "101/400", "Load")
}

// 7.2: loads times waits are the same in whatever order: all loads' times the
// wait of who came first.
func TestSameInAnyOrder(t *testing.T) {
	r := rand.New(rand.NewSource(2))
	for range 20 {
		l := drawn(t, r, 1+r.Intn(4))
		load, err := server.Load(l)
		says(t, err, api.OK, "Load")
		wait, err := server.Wait(l)
		says(t, err, api.OK, "Wait")
		for _, order := range orders(len(l)) {
			turned := reorder(l, order)
			waits, err := server.Waits(turned)
			says(t, err, api.OK, "Waits")
			var sum ratio.Ratio
			for i := range turned {
				own, err := server.Load(turned[i : i+1])
				says(t, err, api.OK, "Load")
				sum = sum.Add(own.Mul(waits[i]))
			}
			is(t, sum, nil, load.Mul(wait).Text(), "loads times waits", order)
		}
	}
}

// 7.2: classes behind a class change nothing of how long it stays, and the
// first one stays as if it were alone: its time, and its wait alone.
func TestStaysAlone(t *testing.T) {
	r := rand.New(rand.NewSource(3))
	for range 30 {
		l := drawn(t, r, 1+r.Intn(6))
		all, err := server.Stays(l)
		says(t, err, api.OK, "Stays")
		for n := 1; n <= len(l); n++ {
			some, err := server.Stays(l[:n])
			are(t, some, err, ratio.Words(all[:n]), "Stays of the first", n)
		}
		wait, err := server.Wait(l[:1])
		says(t, err, api.OK, "Wait")
		mean, err := chance.Moment(l[0].Law, 1)
		is(t, mean.Add(wait), err, all[0].Text(), "Stays of the first")
	}
}

// 7.3: ordinary costs, none, and like quotients.
func TestBest(t *testing.T) {
	for _, c := range []struct{ classes, costs, want string }{
		{"1/4 0 1", "5", "0"},
		{"1/4 0 1", "0", "0"},
		{"0 0 1", "5", "0"},
		{"1 0 1;1 0 1;1 0 1", "1 2 3", "2 1 0"},
		{"1 0 1;1 0 1;1 0 1", "3 2 1", "0 1 2"},
		{"1 0 1;1 0 1;1 0 1", "2 3 1", "1 0 2"},
		{"1 0 1;1 0 0 1;1 0 0 0 1", "1 1 1", "0 1 2"},
		{"1 0 0 0 1;1 0 0 1;1 0 1", "1 1 1", "2 1 0"},
		{"1 0 0 0 1;1 0 0 1;1 0 1", "6 3 1", "0 1 2"},
		{"1 0 0 0 1;1 0 0 1;1 0 1", "3 2 1", "0 1 2"},
		{"1 0 1;1 0 0 1;1 0 0 0 1", "1 2 3", "0 1 2"},
		{"1 0 1;1 0 1/2 0 1/2;1 1/2 0 1/2", "1 2 1", "0 1 2"},
		{"1 0 1;1 0 1;1 0 1;1 0 1", "0 0 0 0", "0 1 2 3"},
		{"1 0 1;1 0 1;1 0 1;1 0 1", "0 1 0 1", "1 3 0 2"},
		{"1 0 1;1 0 0 1;1 0 1;1 0 0 1;1 0 0 0 1", "1 4 2 2 6", "1 2 4 0 3"},
		{"1 1/2 1/2;1 0 1", "1 1", "0 1"},
		{"1 0 1;1 1/2 1/2", "1 1", "1 0"},
		{"1 0 1;2 0 1;3 0 1", "1 1 1", "0 1 2"},
		{"9 0 1;0 0 1;3 0 1", "1 2 1", "1 0 2"},
		{"1 1/3 1/3 1/3;1 0 1", "1/3 1/2", "1 0"},
		{"1 1/3 1/3 1/3;1 0 1", "1/3 1/3", "0 1"},
	} {
		got, err := server.Best(classes(t, c.classes), list(t, c.costs))
		goes(t, got, err, c.want, "Best", c.classes, "at", c.costs)
	}
}

// 7.3: costs apart by the least that may be, on both sides of a like one.
func TestBestNear(t *testing.T) {
	l := classes(t, "1 0 1;1 0 1;1 0 1;1 0 1")
	mid, step := one(t, "1/3"), one(t, tiny)
	costs := []ratio.Ratio{mid.Sub(step), mid, mid.Add(step), mid}
	got, err := server.Best(l, costs)
	goes(t, got, err, "2 1 3 0", "Best")
}

// 7.3: drawn costs with many like quotients, against looking for the next one
// by the document's words.
func TestBestDrawn(t *testing.T) {
	r := rand.New(rand.NewSource(4))
	for many := 1; many <= api.MaxMany; many++ {
		for range 20 {
			var l []server.Class
			var costs []ratio.Ratio
			var worth []*big.Rat
			for range many {
				time, cost := 1+r.Intn(4), r.Intn(5)
				l = append(l, server.Class{Rate: ratio.Whole(r.Intn(3)), Law: surely(time)})
				costs = append(costs, ratio.Whole(cost))
				worth = append(worth, big.NewRat(int64(cost), int64(time)))
			}
			got, err := server.Best(l, costs)
			goes(t, got, err, numbers(falling(worth)), "Best", worth)
		}
	}
}

// falling is numbers' places, the greatest one's first, of like ones the
// first.
func falling(l []*big.Rat) []int {
	var out []int
	for range l {
		next := -1
		for i, a := range l {
			if !slices.Contains(out, i) && (next < 0 || a.Cmp(l[next]) > 0) {
				next = i
			}
		}
		out = append(out, next)
	}
	return out
}

// 7.3: in no order does waiting cost less.
func TestBestCostsLeast(t *testing.T) {
	r := rand.New(rand.NewSource(5))
	for range 30 {
		l := drawn(t, r, 1+r.Intn(4))
		for i := range l {
			l[i].Law = append(chance.Law{{}}, l[i].Law...)
			l[i].Rate = l[i].Rate.Mul(one(t, "1/2"))
		}
		var costs []ratio.Ratio
		for range l {
			costs = append(costs, ratio.Whole(r.Intn(6)))
		}
		best, err := server.Best(l, costs)
		says(t, err, api.OK, "Best")
		least := spent(t, l, costs, best)
		for _, order := range orders(len(l)) {
			if spent(t, l, costs, order).Cmp(least) < 0 {
				t.Errorf("%v costs less than %v", order, best)
			}
		}
	}
}

// spent is what waiting costs in an order, for a unit of time.
func spent(t *testing.T, l []server.Class, costs []ratio.Ratio, order []int) ratio.Ratio {
	t.Helper()
	waits, err := server.Waits(reorder(l, order))
	says(t, err, api.OK, "Waits")
	var out ratio.Ratio
	for place, i := range order {
		out = out.Add(l[i].Rate.Mul(costs[i]).Mul(waits[place]))
	}
	return out
}

// 7.3: wrong costs, times of 0; of several errors the one that is told first.
func TestBestWrong(t *testing.T) {
	for _, c := range []struct {
		classes, costs string
		want           api.Errno
	}{
		{"1 0 1", "", api.ErrForm},
		{"1 0 1", "1 1", api.ErrForm},
		{"1 0 1;1 0 1", "1", api.ErrForm},
		{"1 0 1;1 0 1", "1 1 1", api.ErrForm},
		{"1 0 1;1 0 1", "-1", api.ErrForm},
		{"1 0 1;1 0 1", "-1 -1 -1", api.ErrForm},
		{"1 1;1 0 1", "1", api.ErrForm},
		{"1 1;1 1", "1 1 -1", api.ErrForm},
		{"1 0 1", "-1", api.ErrArg},
		{"1 0 1", "-" + tiny, api.ErrArg},
		{"0 0 1", "-1", api.ErrArg},
		{"1 0 1;1 0 1;1 0 1", "-1 1 1", api.ErrArg},
		{"1 0 1;1 0 1;1 0 1", "1 -1 1", api.ErrArg},
		{"1 0 1;1 0 1;1 0 1", "1 1 -1", api.ErrArg},
		{"1 1", "1", api.ErrZero},
		{"1 1", "0", api.ErrZero},
		{"0 1", "0", api.ErrZero},
		{"1 1 0 0", "1", api.ErrZero},
		{"1 1;1 0 1;1 0 1", "1 1 1", api.ErrZero},
		{"1 0 1;1 1;1 0 1", "1 1 1", api.ErrZero},
		{"1 0 1;1 0 1;1 1", "1 1 1", api.ErrZero},
		{"1 1", "-1", api.ErrArg},
		{"1 0 1;1 1", "-1 1", api.ErrArg},
		{"1 1;1 0 1", "1 -1", api.ErrZero},
		{"1 0 1;1 1;1 0 1", "1 0 -1", api.ErrZero},
		{"1 0 1;1 0 1;1 1", "1 -1 0", api.ErrArg},
		{"1 1;1 1", "1 -1", api.ErrZero},
		{"-1 0 1", "", api.ErrArg},
		{"1 0 1/2", "1 1", api.ErrSum},
		{"1 1;1 0 1/2", "1 1", api.ErrSum},
		{"1 0 1;1 0 1/2", "-1 1", api.ErrSum},
		{"1 1;-1 0 1", "1 1", api.ErrArg},
		{"", "", api.ErrLimit},
		{"", "1", api.ErrLimit},
	} {
		got, err := server.Best(classes(t, c.classes), list(t, c.costs))
		says(t, err, c.want, "Best", c.classes, "at", c.costs)
		if len(got) != 0 {
			t.Errorf("Best of %s at %s: %v beside an error", c.classes, c.costs, got)
		}
	}
	full := like(api.MaxMany, classes(t, "1 0 1")[0])
	_, err := server.Best(full, like(api.MaxMany+1, ratio.Whole(1)))
	says(t, err, api.ErrForm, "Best of MaxMany, a cost more")
	_, err = server.Best(full, like(api.MaxMany-1, ratio.Whole(1)))
	says(t, err, api.ErrForm, "Best of MaxMany, a cost less")
}

// P4: what is handed in stays as it is, behind its length too.
func TestArgumentsStay(t *testing.T) {
	const text = "1/9 0 1/2 1/2;1/8 0 0 1;1/7 1/3 2/3;5 1;6 0 1"
	l, costs := classes(t, text), list(t, "1 2 3 4 5")
	for i := range l {
		l[i].Law = append(l[i].Law, list(t, "1/5 1/6")...)[:len(l[i].Law)]
	}
	for _, call := range []func() error{
		func() error { _, err := server.Load(l[:3]); return err },
		func() error { _, err := server.Wait(l[:3]); return err },
		func() error { _, err := server.Waits(l[:3]); return err },
		func() error { _, err := server.Stays(l[:3]); return err },
		func() error { _, err := server.Best(l[:3], costs[:3]); return err },
	} {
		says(t, call(), api.OK, "a call")
	}
	are(t, costs, nil, "1 2 3 4 5", "costs")
	for i, want := range classes(t, text) {
		is(t, l[i].Rate, nil, want.Rate.Text(), "rate", i)
		n := len(l[i].Law)
		are(t, l[i].Law[:n+2], nil, ratio.Words(want.Law)+" 1/5 1/6", "law", i)
	}
}

// spoil writes over all that a list has, what stands behind its length too.
func spoil[T any](l []T, with T) {
	l = l[:cap(l)]
	for i := range l {
		l[i] = with
	}
}

// P4: answers are the caller's: to write over one changes no other, nothing
// that was handed in, and no later one.
func TestAnswersFresh(t *testing.T) {
	l, costs := classes(t, "1/4 0 1;1/4 0 0 1"), list(t, "1 3")
	for range 3 {
		waits, err := server.Waits(l)
		are(t, waits, err, "5/6 10/3", "Waits")
		stays, err := server.Stays(l)
		are(t, stays, err, "7/6 6", "Stays")
		spoil(waits, ratio.Whole(9))
		are(t, stays, nil, "7/6 6", "Stays beside Waits")
		spoil(stays, ratio.Whole(8))
		order, err := server.Best(l, costs)
		goes(t, order, err, "1 0", "Best")
		spoil(order, 7)
		are(t, costs, nil, "1 3", "costs")
		load, err := server.Load(l)
		is(t, load, err, "3/4", "Load")
	}
}
