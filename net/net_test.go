package net_test

import (
	"math"
	"math/big"
	"math/rand"
	"slices"
	"strconv"
	"strings"
	"testing"

	"foresight/api"
	"foresight/net"
	"foresight/ratio"
)

// tiny is the least fraction above 0 that Parse reads.
var tiny = "1/" + strings.Repeat("9", api.MaxDigits)

// one is the fraction of a text that must be one.
func one(t *testing.T, text string) ratio.Ratio {
	t.Helper()
	a, err := ratio.Parse(text)
	if err != nil {
		t.Fatalf("Parse(%q): %v", text, err)
	}
	return a
}

// list reads fractions, apart by spaces. A tilde is tiny.
func list(t *testing.T, text string) []ratio.Ratio {
	t.Helper()
	var out []ratio.Ratio
	for word := range strings.FieldsSeq(strings.ReplaceAll(text, "~", tiny)) {
		out = append(out, one(t, word))
	}
	return out
}

// rows reads rows of fractions, apart by semicolons: none of an empty text.
func rows(t *testing.T, text string) [][]ratio.Ratio {
	t.Helper()
	if text == "" {
		return nil
	}
	var out [][]ratio.Ratio
	for part := range strings.SplitSeq(text, ";") {
		out = append(out, list(t, part))
	}
	return out
}

// numbers reads whole numbers, apart by spaces.
func numbers(t *testing.T, text string) []int {
	t.Helper()
	var out []int
	for word := range strings.FieldsSeq(text) {
		n, err := strconv.Atoi(word)
		if err != nil {
			t.Fatal(err)
		}
		out = append(out, n)
	}
	return out
}

// written writes rows as rows reads them.
func written(l [][]ratio.Ratio) string {
	var out []string
	for _, row := range l {
		out = append(out, ratio.Words(row))
	}
	return strings.Join(out, ";")
}

// like is so many like things.
func like[T any](n int, a T) []T {
	out := make([]T, n)
	for i := range out {
		out[i] = a
	}
	return out
}

// says fails unless an error is that Errno itself, as no place belongs to it.
func says(t *testing.T, err error, want api.Errno, what ...any) {
	t.Helper()
	if want == api.OK && err == nil {
		return
	}
	if err != error(want) {
		t.Errorf("%v: error %v, want %v", what, err, want)
	}
}

// are fails unless fractions are as wanted, with no error.
func are(t *testing.T, got []ratio.Ratio, err error, want string, what ...any) {
	t.Helper()
	if text := ratio.Words(got); err != nil || text != want {
		t.Errorf("%v: %.300q, error %v, want %.300q", what, text, err, want)
	}
}

// is fails unless a fraction is as wanted, with no error.
func is(t *testing.T, got ratio.Ratio, err error, want string, what ...any) {
	t.Helper()
	are(t, []ratio.Ratio{got}, err, want, what...)
}

// told writes what is so in the mean.
func told(m net.Mean) string {
	return m.Often.Text() + ";" + ratio.Words(m.Time) + ";" + ratio.Words(m.Number)
}

// means fails unless what is so in the mean is as wanted, with no error.
func means(t *testing.T, got net.Mean, err error, want string, what ...any) {
	t.Helper()
	if text := told(got); err != nil || text != want {
		t.Errorf("%v: %.300q, error %v, want %.300q", what, text, err, want)
	}
}

// nothing fails unless an answer is an error's, with nothing beside it.
func nothing(t *testing.T, got []ratio.Ratio, err error, want api.Errno, what ...any) {
	t.Helper()
	says(t, err, want, what...)
	if len(got) != 0 {
		t.Errorf("%v: %s beside an error", what, ratio.Words(got))
	}
}

// known is a fraction as the library has it.
func known(t *testing.T, a ratio.Ratio) *big.Rat {
	t.Helper()
	out, ok := new(big.Rat).SetString(a.Text())
	if !ok {
		t.Fatalf("no fraction: %q", a.Text())
	}
	return out
}

// words is fractions of the library, as ratio tells them.
func words(l []*big.Rat) string {
	var out []string
	for _, a := range l {
		out = append(out, a.RatString())
	}
	return strings.Join(out, " ")
}

// determinant is the sum over all orders of the product of one number of each
// row, with a sign.
func determinant(l [][]*big.Rat) *big.Rat {
	if len(l) == 0 {
		return big.NewRat(1, 1)
	}
	out := new(big.Rat)
	for k, a := range l[0] {
		var less [][]*big.Rat
		for _, row := range l[1:] {
			less = append(less, slices.Delete(slices.Clone(row), k, k+1))
		}
		part := new(big.Rat).Mul(a, determinant(less))
		if k%2 == 1 {
			part.Neg(part)
		}
		out.Add(out, part)
	}
	return out
}

// visits is the x with x[k] = in[k] + the sum over i of x[i] l[i][k], by
// determinants of the library; nil, unless there is just one.
func visits(t *testing.T, in []ratio.Ratio, l [][]ratio.Ratio) []*big.Rat {
	t.Helper()
	equations := func(changed int) [][]*big.Rat {
		var out [][]*big.Rat
		for k := range l {
			var row []*big.Rat
			for i := range l {
				a := new(big.Rat).Neg(known(t, l[i][k]))
				if i == k {
					a.Add(a, big.NewRat(1, 1))
				}
				if i == changed {
					a = known(t, in[k])
				}
				row = append(row, a)
			}
			out = append(out, row)
		}
		return out
	}
	all := determinant(equations(-1))
	if all.Sign() == 0 {
		return nil
	}
	out := []*big.Rat{}
	for k := range l {
		out = append(out, new(big.Rat).Quo(determinant(equations(k)), all))
	}
	return out
}

// drawn is routes that look drawn, many of their numbers 0. Where all is true,
// each row is 1 together; else what is left goes out.
func drawn(t *testing.T, r *rand.Rand, places int, all bool) [][]ratio.Ratio {
	t.Helper()
	var out [][]ratio.Ratio
	for range places {
		parts := make([]int, places+1)
		sum := 0
		for i := range parts {
			parts[i] = max(r.Intn(10)-5, 0)
			sum += parts[i]
		}
		if all {
			sum -= parts[places]
		}
		if sum == 0 {
			parts[r.Intn(places)] = 1
			sum = 1
		}
		var row []ratio.Ratio
		for _, part := range parts[:places] {
			a, err := ratio.Of(part, sum)
			says(t, err, api.OK, "Of")
			row = append(row, a)
		}
		out = append(out, row)
	}
	return out
}

// some is so many fractions from least to least + 6 that look drawn.
func some(t *testing.T, r *rand.Rand, n, least int) []ratio.Ratio {
	t.Helper()
	var out []ratio.Ratio
	for range n {
		a, err := ratio.Of(r.Intn(19), 3)
		says(t, err, api.OK, "Of")
		out = append(out, a.Add(ratio.Whole(least)))
	}
	return out
}

// leads says whether one can come from a place to one of those that are
// wanted.
func leads(l [][]ratio.Ratio, from int, wanted []bool) bool {
	seen := make([]bool, len(l))
	seen[from] = true
	for range l {
		for i, row := range l {
			for k, a := range row {
				seen[k] = seen[k] || seen[i] && a.Sign() > 0
			}
		}
	}
	for k := range l {
		if seen[k] && wanted[k] {
			return true
		}
	}
	return false
}

// allLead says whether one can come from each place to one of those.
func allLead(l [][]ratio.Ratio, wanted []bool) bool {
	for from := range l {
		if !leads(l, from, wanted) {
			return false
		}
	}
	return true
}

// 8.2: ordinary routes, and the edges: nobody comes, nobody goes on.
func TestTraffic(t *testing.T) {
	for _, c := range []struct{ in, routes, want string }{
		{"3", "0", "3"},
		{"0", "0", "0"},
		{"3", "1/2", "6"},
		{"1/3", "3/4", "4/3"},
		{"0", "3/4", "0"},
		{"1 2", "0 0;0 0", "1 2"},
		{"1 0", "0 1;0 0", "1 1"},
		{"0 1", "0 1;0 0", "0 1"},
		{"1 0", "0 0;1 0", "1 0"},
		{"0 1", "0 0;1 0", "1 1"},
		{"1 0", "0 1;1/2 0", "2 2"},
		{"1 2", "1/2 1/4;0 1/3", "2 15/4"},
		{"1 0 0", "0 1/2 1/2;0 0 1;0 0 0", "1 1/2 1"},
		{"1 0 0", "0 1/2 1/2;1/3 0 1/3;1/2 1/2 0", "10/3 3 8/3"},
		{"1 2 3", "1/4 1/4 1/4;1/5 2/5 1/5;0 1/3 1/3", "4 10 9"},
		{"1 2 3 4 5", "0 0 0 0 0;1 0 0 0 0;0 1 0 0 0;0 0 1 0 0;0 0 0 1 0", "15 14 12 9 5"},
		{"1 2 3 4 5", "0 1 0 0 0;0 0 1 0 0;0 0 0 1 0;0 0 0 0 1;0 0 0 0 0", "1 3 6 10 15"},
		{"1 0 0 0 0", "0 1 0 0 0;0 0 1 0 0;0 0 0 1 0;0 0 0 0 1;1/2 0 0 0 0", "2 2 2 2 2"},
	} {
		got, err := net.Traffic(list(t, c.in), rows(t, c.routes))
		are(t, got, err, c.want, "Traffic", c.in, "by", c.routes)
	}
}

// 8.2: drawn routes of 1 to MaxPlaces places, against determinants by the
// library; there is just one answer where one can go out from each place.
func TestTrafficDrawn(t *testing.T) {
	r := rand.New(rand.NewSource(1))
	none := 0
	for places := 1; places <= api.MaxPlaces; places++ {
		for range 80 {
			l, in := drawn(t, r, places, false), some(t, r, places, 0)
			outs := make([]bool, places)
			for i, row := range l {
				outs[i] = ratio.Sum(row...).Cmp(ratio.Whole(1)) < 0
			}
			got, err := net.Traffic(in, l)
			want := visits(t, in, l)
			if (want != nil) != allLead(l, outs) {
				t.Fatalf("%s: two ways to tell that there is one answer differ", written(l))
			}
			if want == nil {
				none++
				nothing(t, got, err, api.ErrNone, "Traffic", in, "by", written(l))
				continue
			}
			are(t, got, err, words(want), "Traffic", ratio.Words(in), "by", written(l))
		}
	}
	if none < 20 {
		t.Errorf("%d drawn routes have no answer: too few", none)
	}
}

// 8.2: somebody never goes out: with all places or a part of them, whether
// somebody comes there (no answer) or nobody does (several), and where an
// equation has a 0 at its own place.
func TestTrafficNone(t *testing.T) {
	for _, c := range []struct{ in, routes string }{
		{"0", "1"},
		{"1", "1"},
		{"0 0", "0 1;1 0"},
		{"1 0", "0 1;1 0"},
		{"1 1", "1/2 1/2;1/3 2/3"},
		{"0 0", "1 0;0 1"},
		{"0 5", "1 0;0 0"},
		{"5 0", "1 0;0 0"},
		{"5 0", "0 0;0 1"},
		{"0 5", "0 0;0 1"},
		{"1 1", "1 0;1/2 0"},
		{"1 1", "0 1/2;0 1"},
		{"1 0 0", "1/2 0 0;0 0 1;0 1 0"},
		{"1 1 0", "1/2 0 0;0 0 1;0 1 0"},
		{"1 0 0", "0 1/3 1/3;0 0 1;0 1 0"},
		{"1 1 1", "0 1 0;1 0 0;0 0 0"},
		{"1 1 1", "1 0 0;1/3 1/3 0;0 1/2 0"},
		{"1 0 1", "0 0 1;0 0 0;1 0 0"},
		{"0 0 0", "0 0 1;0 0 0;1 0 0"},
		{"1 1 1 1 1", "0 1 0 0 0;0 0 1 0 0;0 0 0 1 0;0 0 0 0 1;1 0 0 0 0"},
		{"0 0 0 0 0", "0 1 0 0 0;0 0 1 0 0;0 0 0 1 0;0 0 0 0 1;1 0 0 0 0"},
		{"1 1 1 0 0", "0 1/2 0 0 0;1/2 0 0 0 0;0 0 0 0 0;0 0 0 0 1;0 0 0 1 0"},
		{"0 0 0 1 1", "0 1/2 0 0 0;1/2 0 0 0 0;0 0 0 0 0;0 0 0 0 1;0 0 0 1 0"},
		{"1 0 0 0 0", "1 0 0 0 0;0 1/2 0 0 0;0 0 1/2 0 0;0 0 0 1/2 0;0 0 0 0 1/2"},
	} {
		in, l := list(t, c.in), rows(t, c.routes)
		got, err := net.Traffic(in, l)
		nothing(t, got, err, api.ErrNone, "Traffic", c.in, "by", c.routes)
		for _, speeds := range [][]ratio.Ratio{like(len(l), ratio.Whole(99)), like(len(l), ratio.Ratio{}), nil} {
			got, err = net.Open(in, l, speeds)
			nothing(t, got, err, api.ErrNone, "Open", c.in, "by", c.routes, "with", ratio.Words(speeds))
		}
	}
}

// 8.1, 8.2: rows just below 1, at 1 and just above it together.
func TestTrafficRowsNearOne(t *testing.T) {
	least, whole := one(t, tiny), ratio.Whole(1)
	below, above := whole.Sub(least), whole.Add(least)
	many := strings.Repeat("9", api.MaxDigits)
	got, err := net.Traffic(list(t, "1"), [][]ratio.Ratio{{below}})
	are(t, got, err, many, "Traffic, just below")
	got, err = net.Traffic(list(t, "1"), [][]ratio.Ratio{{whole}})
	nothing(t, got, err, api.ErrNone, "Traffic, at 1")
	got, err = net.Traffic(list(t, "1"), [][]ratio.Ratio{{above}})
	nothing(t, got, err, api.ErrSum, "Traffic, just above")

	half := one(t, "1/2")
	in := list(t, "1 0")
	for _, l := range [][][]ratio.Ratio{
		{{half, half.Sub(least)}, {half, half}},
		{{half.Sub(least), half}, {half, half}},
		{{half, half}, {half, half.Sub(least)}},
	} {
		got, err := net.Traffic(in, l)
		are(t, got, err, words(visits(t, in, l)), "Traffic, just below by two")
	}
	for _, l := range [][][]ratio.Ratio{
		{{half, half.Add(least)}, {half, half}},
		{{half.Add(least), half}, {half, half}},
		{{half, half}, {half, half.Add(least)}},
		{{half, half}, {whole, whole}},
	} {
		got, err := net.Traffic(in, l)
		nothing(t, got, err, api.ErrSum, "Traffic, above by two")
	}
}

// wrong is a row of routes that may not be, by its name.
type wrong struct {
	name string
	row  []ratio.Ratio
	want api.Errno
}

// wrongs is all ways in which a row of so many places may be wrong.
func wrongs(t *testing.T, places int) []wrong {
	t.Helper()
	whole, below := ratio.Whole(1), one(t, "-"+tiny)
	with := func(row []ratio.Ratio, place int, a ratio.Ratio) []ratio.Ratio {
		row = slices.Clone(row)
		row[place] = a
		return row
	}
	none, share := make([]ratio.Ratio, places), one(t, "1/"+strconv.Itoa(places))
	full := with(none, 0, whole)
	out := []wrong{
		{"no row", nil, api.ErrForm},
		{"an empty row", []ratio.Ratio{}, api.ErrForm},
		{"a shorter one", none[1:], api.ErrForm},
		{"a longer one", append(slices.Clone(none), whole), api.ErrForm},
		{"a shorter one, below 0", like(places-1, below), api.ErrForm},
		{"a longer one, below 0", like(places+1, below), api.ErrForm},
		{"a longer one, above 1", like(places+1, whole), api.ErrForm},
		{"one of the most and more", like(api.MaxPlaces+1, ratio.Ratio{}), api.ErrForm},
		{"all below 0", like(places, ratio.Whole(-1)), api.ErrArg},
		{"all above 1", like(places, ratio.Whole(2)), api.ErrSum},
		{"just above 1", append(like(places-1, share), share.Sub(below)), api.ErrSum},
	}
	for k := range places {
		out = append(out,
			wrong{"below 0 at " + strconv.Itoa(k), with(none, k, ratio.Whole(-1)), api.ErrArg},
			wrong{"just below 0 at " + strconv.Itoa(k), with(none, k, below), api.ErrArg},
			wrong{"above 1 at " + strconv.Itoa(k), with(none, k, ratio.Whole(2)), api.ErrSum},
			wrong{"just above 1 at " + strconv.Itoa(k), with(none, k, whole.Sub(below)), api.ErrSum})
		if k > 0 {
			out = append(out,
				wrong{"1 together by one below 0 at " + strconv.Itoa(k), append([]ratio.Ratio{ratio.Whole(2)}, with(none, k, ratio.Whole(-1))[1:]...), api.ErrArg},
				wrong{"above 1, then below 0 at " + strconv.Itoa(k), append([]ratio.Ratio{ratio.Whole(3)}, with(none, k, ratio.Whole(-1))[1:]...), api.ErrArg},
				wrong{"just above 1 by one at " + strconv.Itoa(k), with(full, k, one(t, tiny)), api.ErrSum})
		}
	}
	return out
}

// ring is routes of so many places, from each to the next one: right for all
// functions, while nobody ever goes out.
func ring(places int) [][]ratio.Ratio {
	var out [][]ratio.Ratio
	for i := range places {
		row := make([]ratio.Ratio, places)
		row[(i+1)%places] = ratio.Whole(1)
		out = append(out, row)
	}
	return out
}

// refused fails unless all functions say one thing of routes, whatever comes
// in, and whatever speeds there are.
func refused(t *testing.T, l [][]ratio.Ratio, want api.Errno, what ...any) {
	t.Helper()
	for _, beside := range [][]ratio.Ratio{
		nil,
		like(len(l), ratio.Whole(1)),
		like(len(l), ratio.Whole(-1)),
		like(len(l)+1, ratio.Whole(-1)),
	} {
		text := ratio.Words(beside)
		got, err := net.Traffic(beside, l)
		nothing(t, got, err, want, "Traffic", what, text)
		got, err = net.Open(beside, l, like(len(l), ratio.Whole(1)))
		nothing(t, got, err, want, "Open", what, text)
		got, err = net.Open(like(len(l), ratio.Whole(1)), l, beside)
		nothing(t, got, err, want, "Open, speeds", what, text)
		got, err = net.Closed(l, beside)
		nothing(t, got, err, want, "Closed", what, text)
	}
}

// 8.1: how many places there may be.
func TestRoutesHowMany(t *testing.T) {
	refused(t, nil, api.ErrLimit, "no place")
	refused(t, [][]ratio.Ratio{}, api.ErrLimit, "an empty list")
	refused(t, ring(api.MaxPlaces+1), api.ErrLimit, "one more")
	refused(t, ring(4*api.MaxPlaces), api.ErrLimit, "many more")
	refused(t, make([][]ratio.Ratio, api.MaxPlaces+1), api.ErrLimit, "one more, without rows")
	refused(t, like(api.MaxPlaces+1, like(api.MaxPlaces+1, ratio.Whole(-1))), api.ErrLimit, "one more, below 0")
	for places := 1; places <= api.MaxPlaces; places++ {
		noughts := like(places, make([]ratio.Ratio, places))
		ones := like(places, ratio.Whole(1))
		got, err := net.Traffic(ones, noughts)
		are(t, got, err, ratio.Words(ones), "Traffic of", places)
		got, err = net.Closed(ring(places), ones)
		are(t, got, err, ratio.Words(ones), "Closed of", places)
	}
}

// 8.1: each wrong row alone, and at each place among right ones.
func TestRoutesWrongRow(t *testing.T) {
	for places := 1; places <= api.MaxPlaces; places++ {
		for _, w := range wrongs(t, places) {
			for i := range places {
				l := ring(places)
				l[i] = w.row
				refused(t, l, w.want, places, "places", w.name, "in row", i)
			}
		}
	}
}

// 8.1: of two wrong rows the first one's error, wholly ahead of the next
// one's.
func TestRoutesWrongTwo(t *testing.T) {
	const places = 3
	for _, a := range wrongs(t, places) {
		for _, b := range wrongs(t, places) {
			l := ring(places)
			l[0], l[2] = a.row, b.row
			refused(t, l, a.want, a.name, "ahead of", b.name)
		}
	}
}

// 8.1: rows below 1 together are wrong in Closed alone, and the first wrong
// row's error is told.
func TestRoutesBelowOne(t *testing.T) {
	least := one(t, tiny)
	for places := 1; places <= api.MaxPlaces; places++ {
		ones := like(places, ratio.Whole(1))
		for _, all := range []ratio.Ratio{{}, one(t, "1/2"), ratio.Whole(1).Sub(least)} {
			for i := range places {
				l := ring(places)
				next := (i + 1) % places
				l[i][next] = all
				want := visits(t, ones, l)
				got, err := net.Traffic(ones, l)
				are(t, got, err, words(want), "Traffic", places, all.Text(), "in row", i)
				got, err = net.Closed(l, ones)
				nothing(t, got, err, api.ErrSum, "Closed", places, all.Text(), "in row", i)
				got, err = net.Closed(l, nil)
				nothing(t, got, err, api.ErrSum, "Closed without speeds", places, all.Text(), "in row", i)
				for _, w := range wrongs(t, places) {
					if i+1 < places {
						l[i+1] = w.row
						got, err = net.Closed(l, ones)
						nothing(t, got, err, api.ErrSum, "Closed", all.Text(), "ahead of", w.name)
					}
				}
			}
		}
	}
}

// 8.2: what comes in, wrong; ahead of ErrNone.
func TestTrafficWrongIn(t *testing.T) {
	for _, c := range []struct {
		in, routes string
		want       api.Errno
	}{
		{"", "1/2", api.ErrForm},
		{"1 1", "1/2", api.ErrForm},
		{"-1 1", "1/2", api.ErrForm},
		{"", "1", api.ErrForm},
		{"1 1", "1", api.ErrForm},
		{"1", "0 0;0 0", api.ErrForm},
		{"-1", "0 0;0 0", api.ErrForm},
		{"1 1 1", "0 0;0 0", api.ErrForm},
		{"1 1 1", "0 1;1 0", api.ErrForm},
		{"-1", "1/2", api.ErrArg},
		{"-~", "1/2", api.ErrArg},
		{"-1", "1", api.ErrArg},
		{"-1 1", "0 0;0 0", api.ErrArg},
		{"1 -1", "0 0;0 0", api.ErrArg},
		{"1 -~", "0 1;1 0", api.ErrArg},
		{"9 9 -1", "0 0 0;0 0 0;0 0 0", api.ErrArg},
		{"0 0 0 0 -~", "0 1 0 0 0;0 0 1 0 0;0 0 0 1 0;0 0 0 0 1;0 0 0 0 0", api.ErrArg},
	} {
		in, l := list(t, c.in), rows(t, c.routes)
		got, err := net.Traffic(in, l)
		nothing(t, got, err, c.want, "Traffic", c.in, "by", c.routes)
		for _, speeds := range []string{"", "0", "-1 0", "1 1 1"} {
			got, err = net.Open(in, l, list(t, speeds))
			nothing(t, got, err, c.want, "Open", c.in, "by", c.routes, "with", speeds)
		}
	}
}

// 8.2: Open, and loads just below 1, at 1 and beyond it.
func TestOpen(t *testing.T) {
	for _, c := range []struct{ in, routes, speeds, want string }{
		{"3", "0", "4", "3/4"},
		{"0", "0", "1/9", "0"},
		{"3", "1/2", "7", "6/7"},
		{"1 2", "1/2 1/4;0 1/3", "4 5", "1/2 3/4"},
		{"1 0", "0 1;1/2 0", "3 4", "2/3 1/2"},
		{"1 0 0", "0 1/2 1/2;1/3 0 1/3;1/2 1/2 0", "4 5 6", "5/6 3/5 4/9"},
		{"1 2 3 4 5", "0 1 0 0 0;0 0 1 0 0;0 0 0 1 0;0 0 0 0 1;0 0 0 0 0", "2 4 8 16 32", "1/2 3/4 3/4 5/8 15/32"},
		{"0 0", "0 0;0 0", "~ ~", "0 0"},
	} {
		got, err := net.Open(list(t, c.in), rows(t, c.routes), list(t, c.speeds))
		are(t, got, err, c.want, "Open", c.in, "by", c.routes, "with", c.speeds)
	}
}

// 8.2: loads just below 1, at 1 and beyond it, at each place.
func TestOpenTooMuch(t *testing.T) {
	least := one(t, tiny)
	whole := ratio.Whole(1)
	for places := 1; places <= api.MaxPlaces; places++ {
		l := like(places, make([]ratio.Ratio, places))
		speeds := like(places, whole)
		for k := range places {
			for _, c := range []struct {
				load ratio.Ratio
				want api.Errno
			}{
				{whole.Sub(least), api.OK},
				{whole, api.ErrLoad},
				{whole.Add(least), api.ErrLoad},
				{ratio.Whole(7), api.ErrLoad},
			} {
				in := like(places, one(t, "1/2"))
				in[k] = c.load
				got, err := net.Open(in, l, speeds)
				if c.want == api.OK {
					are(t, got, err, ratio.Words(in), "Open", ratio.Words(in))
					continue
				}
				nothing(t, got, err, c.want, "Open", ratio.Words(in))
			}
		}
	}
	// The load comes by routes, and by a slow place.
	got, err := net.Open(list(t, "1 0"), rows(t, "0 1;1/2 0"), list(t, "3 2"))
	nothing(t, got, err, api.ErrLoad, "Open, by routes")
	got, err = net.Open(list(t, "1 0"), rows(t, "0 1;1/2 0"), list(t, "1 3"))
	nothing(t, got, err, api.ErrLoad, "Open, by a slow place")
}

// 8.2: speeds, wrong; ahead of ErrLoad.
func TestOpenWrongSpeeds(t *testing.T) {
	for _, c := range []struct {
		in, routes, speeds string
		want               api.Errno
	}{
		{"1", "0", "", api.ErrForm},
		{"1", "0", "2 2", api.ErrForm},
		{"1", "0", "-1 0", api.ErrForm},
		{"9", "0", "1 1", api.ErrForm},
		{"1 1", "0 0;0 0", "2", api.ErrForm},
		{"1 1", "0 0;0 0", "0", api.ErrForm},
		{"1 1", "0 0;0 0", "2 2 2", api.ErrForm},
		{"1", "0", "0", api.ErrArg},
		{"1", "0", "-2", api.ErrArg},
		{"1", "0", "-~", api.ErrArg},
		{"0", "0", "0", api.ErrArg},
		{"1 1", "0 0;0 0", "0 2", api.ErrArg},
		{"1 1", "0 0;0 0", "2 0", api.ErrArg},
		{"1 1", "0 0;0 0", "-2 2", api.ErrArg},
		{"1 1", "0 0;0 0", "2 -2", api.ErrArg},
		{"9 9", "0 0;0 0", "2 0", api.ErrArg},
		{"9 9", "0 0;0 0", "2 -2", api.ErrArg},
		{"1 1 1", "0 0 0;0 0 0;0 0 0", "2 2 0", api.ErrArg},
		{"1 1", "0 0;0 0", "2 ~", api.ErrLoad},
	} {
		got, err := net.Open(list(t, c.in), rows(t, c.routes), list(t, c.speeds))
		nothing(t, got, err, c.want, "Open", c.in, "by", c.routes, "with", c.speeds)
	}
}

// 8.2: drawn nets against the document's words: what Traffic tells, divided.
func TestOpenDrawn(t *testing.T) {
	r := rand.New(rand.NewSource(2))
	var seen [2]int
	for range 400 {
		places := 1 + r.Intn(api.MaxPlaces)
		l, in, speeds := drawn(t, r, places, false), some(t, r, places, 0), some(t, r, places, 1+r.Intn(15))
		often := visits(t, in, l)
		if often == nil {
			continue
		}
		much := 0
		for k := range often {
			often[k].Quo(often[k], known(t, speeds[k]))
			if often[k].Cmp(big.NewRat(1, 1)) >= 0 {
				much = 1
			}
		}
		seen[much]++
		got, err := net.Open(in, l, speeds)
		if much == 1 {
			nothing(t, got, err, api.ErrLoad, "Open", ratio.Words(in), "by", written(l), "with", ratio.Words(speeds))
			continue
		}
		are(t, got, err, words(often), "Open", ratio.Words(in), "by", written(l), "with", ratio.Words(speeds))
	}
	if seen[0] < 30 || seen[1] < 30 {
		t.Errorf("drawn nets: %v: too few of one kind", seen)
	}
}

// 8.2: Chance, ordinary, and the edges: loads of 0, nobody, MaxSize people.
func TestChance(t *testing.T) {
	for _, c := range []struct{ loads, people, want string }{
		{"1/2", "0", "1/2"},
		{"1/2", "1", "1/4"},
		{"1/2", "3", "1/16"},
		{"1/3", "2", "2/27"},
		{"2/3", "2", "4/27"},
		{"0", "0", "1"},
		{"0", "1", "0"},
		{"0", "100", "0"},
		{"1/2 1/3", "0 0", "1/3"},
		{"1/2 1/3", "1 2", "1/54"},
		{"1/2 1/3", "2 1", "1/36"},
		{"0 1/3", "0 1", "2/9"},
		{"0 1/3", "1 1", "0"},
		{"1/3 0", "1 0", "2/9"},
		{"1/2 1/2 1/2 1/2 1/2", "0 0 0 0 0", "1/32"},
		{"1/2 1/2 1/2 1/2 1/2", "1 2 3 4 5", "1/1048576"},
		{"1/2 2/3 3/4 4/5 5/6", "1 1 1 1 1", "1/4320"},
	} {
		got, err := net.Chance(list(t, c.loads), numbers(t, c.people))
		is(t, got, err, c.want, "Chance", c.loads, "with", c.people)
	}
	got, err := net.Chance(list(t, "1/2"), []int{api.MaxSize})
	is(t, got, err, "1/"+new(big.Int).Lsh(big.NewInt(1), api.MaxSize+1).String(), "Chance of MaxSize")
}

// 8.2: drawn loads and people, up to MaxPlaces and MaxSize, against the
// library; loads just below 1, too.
func TestChanceDrawn(t *testing.T) {
	r := rand.New(rand.NewSource(3))
	for range 200 {
		var loads []ratio.Ratio
		var people []int
		want := big.NewRat(1, 1)
		for range 1 + r.Intn(api.MaxPlaces) {
			under := 1 + r.Intn(30)
			load, err := ratio.Of(r.Intn(under), under)
			says(t, err, api.OK, "Of")
			if r.Intn(10) == 0 {
				load = ratio.Whole(1).Sub(one(t, tiny))
			}
			n := r.Intn(api.MaxSize + 1)
			loads, people = append(loads, load), append(people, n)
			a := known(t, load)
			for range n {
				want.Mul(want, a)
			}
			want.Mul(want, new(big.Rat).Sub(big.NewRat(1, 1), a))
		}
		got, err := net.Chance(loads, people)
		is(t, got, err, want.RatString(), "Chance", ratio.Words(loads), "with", people)
	}
}

// 8.2: wrong loads and people; place by place, each wholly ahead of the next
// one.
func TestChanceWrong(t *testing.T) {
	for _, c := range []struct {
		loads, people string
		want          api.Errno
	}{
		{"", "", api.ErrLimit},
		{"", "1", api.ErrLimit},
		{"0 0 0 0 0 0", "0 0 0 0 0 0", api.ErrLimit},
		{"0 0 0 0 0 0", "", api.ErrLimit},
		{"-1 2 0 0 0 0", "-1 0 0 0 0 0", api.ErrLimit},
		{"0", "", api.ErrForm},
		{"0", "0 0", api.ErrForm},
		{"2", "", api.ErrForm},
		{"-1", "0 0", api.ErrForm},
		{"0 0", "-1", api.ErrForm},
		{"0 0 0 0 0", "0 0 0 0 0 0", api.ErrForm},
		{"0 0 0 0 0", "0 0 0 0", api.ErrForm},
		{"1", "0", api.ErrArg},
		{"2", "0", api.ErrArg},
		{"-1", "0", api.ErrArg},
		{"-~", "0", api.ErrArg},
		{"1 0", "0 0", api.ErrArg},
		{"0 1", "0 0", api.ErrArg},
		{"0 0 0 0 1", "1 0 0 0 0", api.ErrArg},
		{"0 0 0 0 -1", "1 0 0 0 0", api.ErrArg},
		{"1/2", "-1", api.ErrRange},
		{"1/2", "101", api.ErrRange},
		{"0", "101", api.ErrRange},
		{"0", "-1", api.ErrRange},
		{"1/2 1/2", "0 -1", api.ErrRange},
		{"1/2 1/2", "0 101", api.ErrRange},
		{"0 0 0 0 0", "1 0 0 0 101", api.ErrRange},
		{"1", "-1", api.ErrArg},
		{"-1", "101", api.ErrArg},
		{"1/2 1", "-1 0", api.ErrRange},
		{"1/2 -1", "101 0", api.ErrRange},
		{"1 1/2", "0 -1", api.ErrArg},
		{"1/2 1", "0 -1", api.ErrArg},
		{"0 1/2 1", "3 -1 0", api.ErrRange},
	} {
		got, err := net.Chance(list(t, c.loads), numbers(t, c.people))
		says(t, err, c.want, "Chance", c.loads, "with", c.people)
		if got.Sign() != 0 {
			t.Errorf("Chance %s with %s: %s beside an error", c.loads, c.people, got.Text())
		}
	}
	for _, people := range []int{math.MinInt, -1, api.MaxSize + 1, math.MaxInt} {
		_, err := net.Chance(list(t, "1/2"), []int{people})
		says(t, err, api.ErrRange, "Chance with", people)
	}
	just := one(t, tiny).Add(ratio.Whole(1))
	_, err := net.Chance([]ratio.Ratio{just}, []int{0})
	says(t, err, api.ErrArg, "Chance of a load just above 1")
}

// 8.2 (JACKSON): each number of people is left as often as it is come to.
func TestChanceIsSteady(t *testing.T) {
	in, l, speeds := list(t, "1 2"), rows(t, "1/4 1/2;1/3 0"), list(t, "5 6")
	loads, err := net.Open(in, l, speeds)
	says(t, err, api.OK, "Open")
	at := func(people ...int) ratio.Ratio {
		if slices.Min(people) < 0 {
			return ratio.Ratio{}
		}
		out, err := net.Chance(loads, people)
		says(t, err, api.OK, "Chance", people)
		return out
	}
	for a := range 6 {
		for b := range 6 {
			leave := ratio.Sum(in...)
			if a > 0 {
				leave = leave.Add(speeds[0].Mul(ratio.Whole(1).Sub(l[0][0])))
			}
			if b > 0 {
				leave = leave.Add(speeds[1].Mul(ratio.Whole(1).Sub(l[1][1])))
			}
			go0 := ratio.Whole(1).Sub(ratio.Sum(l[0]...))
			go1 := ratio.Whole(1).Sub(ratio.Sum(l[1]...))
			come := ratio.Sum(
				at(a-1, b).Mul(in[0]),
				at(a, b-1).Mul(in[1]),
				at(a+1, b).Mul(speeds[0]).Mul(go0),
				at(a, b+1).Mul(speeds[1]).Mul(go1),
				at(a+1, b-1).Mul(speeds[0]).Mul(l[0][1]),
				at(a-1, b+1).Mul(speeds[1]).Mul(l[1][0]),
			)
			is(t, at(a, b).Mul(leave), nil, come.Text(), "left and come to", a, b)
		}
	}
}

// 8.3: ordinary nets, and the edges: places that one never comes to, and a
// first place that one stays at.
func TestClosed(t *testing.T) {
	for _, c := range []struct{ routes, speeds, want string }{
		{"0 1/2 1/2;1 0 0;1 0 0", "1 2 3", "1 1/4 1/6"},
		{"1", "1", "1"},
		{"1", "3", "1/3"},
		{"0 1;1 0", "1 1", "1 1"},
		{"0 1;1 0", "2 5", "1/2 1/5"},
		{"1/2 1/2;1 0", "1 1", "1 1/2"},
		{"0 1;1/2 1/2", "1 1", "1 2"},
		{"1 0;1 0", "2 3", "1/2 0"},
		{"1 0;1/2 1/2", "2 3", "1/2 0"},
		{"1 0 0;0 0 1;1/2 1/2 0", "2 3 4", "1/2 0 0"},
		{"1/3 1/3 1/3;1/2 0 1/2;1/4 1/4 1/2", "1 1 1", "1 2/3 4/3"},
		{"0 1 0;1 0 0;0 1 0", "1 1 1", "1 1 0"},
		{"0 1 0 0 0;0 0 1 0 0;0 0 0 1 0;0 0 0 0 1;1 0 0 0 0", "1 2 3 4 5", "1 1/2 1/3 1/4 1/5"},
		{"0 0 0 0 1;1 0 0 0 0;0 1 0 0 0;0 0 1 0 0;0 0 0 1 0", "1 2 3 4 5", "1 1/2 1/3 1/4 1/5"},
		{"0 1/4 1/4 1/4 1/4;1 0 0 0 0;1 0 0 0 0;1 0 0 0 0;1/2 0 0 0 1/2", "1 1 1 1 1", "1 1/4 1/4 1/4 1/2"},
	} {
		got, err := net.Closed(rows(t, c.routes), list(t, c.speeds))
		are(t, got, err, c.want, "Closed", c.routes, "with", c.speeds)
	}
}

// 8.3: several answers, and none: nets that fall apart, and places from which
// one never comes back to the first.
func TestClosedNone(t *testing.T) {
	for _, routes := range []string{
		"1 0;0 1",
		"0 1;0 1",
		"1/2 1/2;0 1",
		"1 0 0;0 1 0;0 0 1",
		"1 0 0;0 0 1;0 1 0",
		"0 1 0;1 0 0;0 0 1",
		"0 0 1;0 1 0;1 0 0",
		"0 1 0;0 0 1;0 1 0",
		"0 1/2 1/2;1 0 0;0 0 1",
		"0 1/2 1/2;0 1 0;1 0 0",
		"1 0 0;1/2 1/2 0;0 0 1",
		"0 1 0 0;1 0 0 0;0 0 0 1;0 0 1 0",
		"0 0 1 0;0 0 0 1;1 0 0 0;0 1 0 0",
		"0 1 0 0 0;1 0 0 0 0;0 0 0 1 0;0 0 0 0 1;0 0 1 0 0",
		"0 1 0 0 0;0 0 1 0 0;0 0 0 1 0;0 0 0 0 1;0 1 0 0 0",
	} {
		l := rows(t, routes)
		got, err := net.Closed(l, like(len(l), ratio.Whole(1)))
		nothing(t, got, err, api.ErrNone, "Closed", routes)
	}
}

// 8.3: drawn nets, against determinants by the library: there is one answer
// where one can come from each place to the first, and it fits all equations,
// the first one's too.
func TestClosedDrawn(t *testing.T) {
	r := rand.New(rand.NewSource(4))
	none := 0
	for places := 1; places <= api.MaxPlaces; places++ {
		first := make([]bool, places)
		first[0] = true
		for range 100 {
			l, speeds := drawn(t, r, places, true), some(t, r, places, 1)
			var others [][]ratio.Ratio
			for _, row := range l[1:] {
				others = append(others, row[1:])
			}
			got, err := net.Closed(l, speeds)
			often := visits(t, l[0][1:], others)
			if (often != nil) != allLead(l, first) {
				t.Fatalf("%s: two ways to tell that there is one answer differ", written(l))
			}
			if often == nil {
				none++
				nothing(t, got, err, api.ErrNone, "Closed", written(l))
				continue
			}
			often = append([]*big.Rat{big.NewRat(1, 1)}, often...)
			fits(t, l, often)
			for k := range often {
				often[k].Quo(often[k], known(t, speeds[k]))
			}
			are(t, got, err, words(often), "Closed", written(l), "with", ratio.Words(speeds))
		}
	}
	if none < 30 {
		t.Errorf("%d drawn nets have no answer: too few", none)
	}
}

// fits fails unless one comes to each place as often as told.
func fits(t *testing.T, l [][]ratio.Ratio, often []*big.Rat) {
	t.Helper()
	for k := range l {
		sum := new(big.Rat)
		for i := range l {
			sum.Add(sum, new(big.Rat).Mul(often[i], known(t, l[i][k])))
		}
		if sum.Cmp(often[k]) != 0 {
			t.Errorf("%s: %s at %d, but one comes there %s times", written(l), often[k], k, sum)
		}
	}
}

// 8.3: speeds, wrong; behind what is wrong with routes, ahead of ErrNone.
func TestClosedWrongSpeeds(t *testing.T) {
	for _, c := range []struct {
		routes, speeds string
		want           api.Errno
	}{
		{"1", "", api.ErrForm},
		{"1", "1 1", api.ErrForm},
		{"1", "-1 0", api.ErrForm},
		{"0 1;1 0", "1", api.ErrForm},
		{"0 1;1 0", "0", api.ErrForm},
		{"0 1;1 0", "1 1 1", api.ErrForm},
		{"1 0;0 1", "1 1 1", api.ErrForm},
		{"1 0;0 1", "", api.ErrForm},
		{"1", "0", api.ErrArg},
		{"1", "-1", api.ErrArg},
		{"1", "-~", api.ErrArg},
		{"0 1;1 0", "0 1", api.ErrArg},
		{"0 1;1 0", "1 0", api.ErrArg},
		{"0 1;1 0", "1 -1", api.ErrArg},
		{"1 0;0 1", "1 0", api.ErrArg},
		{"1 0;0 1", "-1 1", api.ErrArg},
		{"1 0;0 1", "1 ~", api.ErrNone},
		{"0 1;1 1/2", "", api.ErrSum},
		{"0 1/2;1 0", "0 0", api.ErrSum},
		{"0 1;-1 2", "-1 0", api.ErrArg},
		{"0 1;1", "0 0", api.ErrForm},
	} {
		got, err := net.Closed(rows(t, c.routes), list(t, c.speeds))
		nothing(t, got, err, c.want, "Closed", c.routes, "with", c.speeds)
	}
	got, err := net.Closed(rows(t, "0 1;1 0"), list(t, "~ 1"))
	are(t, got, err, strings.Repeat("9", api.MaxDigits)+" 1", "Closed with a speed just above 0")
}

// crowd is all ways to have so many people at so many places.
func crowd(places, people int) [][]int {
	if places == 1 {
		return [][]int{{people}}
	}
	var out [][]int
	for here := range people + 1 {
		for _, others := range crowd(places-1, people-here) {
			out = append(out, append([]int{here}, others...))
		}
	}
	return out
}

// weigh is the sum over all ways to have so many people at places of the
// product of d^people, and of each place how many people are there in the
// mean, by the library (nil, if the sum is 0).
func weigh(t *testing.T, d []ratio.Ratio, people int) (*big.Rat, []*big.Rat) {
	t.Helper()
	powers := make([][]*big.Rat, len(d))
	for i, a := range d {
		power := big.NewRat(1, 1)
		for range people + 1 {
			powers[i] = append(powers[i], power)
			power = new(big.Rat).Mul(power, known(t, a))
		}
	}
	all, there := new(big.Rat), make([]*big.Rat, len(d))
	for i := range there {
		there[i] = new(big.Rat)
	}
	for _, way := range crowd(len(d), people) {
		weight := big.NewRat(1, 1)
		for i, n := range way {
			weight.Mul(weight, powers[i][n])
		}
		all.Add(all, weight)
		for i, n := range way {
			there[i].Add(there[i], new(big.Rat).Mul(weight, big.NewRat(int64(n), 1)))
		}
	}
	if all.Sign() == 0 {
		return all, nil
	}
	for i := range there {
		there[i].Quo(there[i], all)
	}
	return all, there
}

// 8.4: Sums, ordinary, and the edges: nobody, one place, noughts.
func TestSums(t *testing.T) {
	for _, c := range []struct {
		d      string
		people int
		want   string
	}{
		{"1 1/4 1/6", 3, "1 17/12 223/144 2741/1728"},
		{"1 1/4 1/6", 1, "1 17/12"},
		{"1 1/4 1/6", 0, "1"},
		{"2", 0, "1"},
		{"2", 4, "1 2 4 8 16"},
		{"0", 0, "1"},
		{"0", 3, "1 0 0 0"},
		{"0 0 0", 2, "1 0 0"},
		{"0 3", 3, "1 3 9 27"},
		{"3 0", 3, "1 3 9 27"},
		{"1 1", 3, "1 2 3 4"},
		{"1 2", 3, "1 3 7 15"},
		{"1 1 1 1 1", 4, "1 5 15 35 70"},
		{"1/2 1/3", 2, "1 5/6 19/36"},
		{"0 1 0 1 0", 5, "1 2 3 4 5 6"},
	} {
		got, err := net.Sums(list(t, c.d), c.people)
		are(t, got, err, c.want, "Sums", c.d, "up to", c.people)
	}
	got, err := net.Sums(like(api.MaxPlaces, ratio.Whole(1)), api.MaxMany)
	says(t, err, api.OK, "Sums of MaxPlaces and MaxMany")
	if len(got) != api.MaxMany+1 || got[api.MaxMany].Text() != "10626" {
		t.Errorf("Sums of MaxPlaces and MaxMany: %s", ratio.Words(got))
	}
}

// 8.4: drawn numbers against the sum over all ways; Means against the mean over
// all ways, and against its own words.
func TestSumsAndMeansDrawn(t *testing.T) {
	r := rand.New(rand.NewSource(5))
	for places := 1; places <= api.MaxPlaces; places++ {
		for _, people := range []int{0, 1, 2, 3, 5, 7, 8} {
			for range 4 {
				d := some(t, r, places, 0)
				if r.Intn(3) == 0 {
					d[r.Intn(places)] = ratio.Ratio{}
				}
				crowdFits(t, d, people)
			}
		}
	}
	crowdFits(t, list(t, "1/2 1/3 0 2 3/4"), api.MaxMany)
	crowdFits(t, list(t, "1/2"), api.MaxMany)
}

// crowdFits fails unless Sums and Means are what the document's words ask.
func crowdFits(t *testing.T, d []ratio.Ratio, people int) {
	t.Helper()
	var sums []*big.Rat
	for n := range people + 1 {
		all, _ := weigh(t, d, n)
		sums = append(sums, all)
	}
	got, err := net.Sums(d, people)
	are(t, got, err, words(sums), "Sums", ratio.Words(d), "up to", people)

	mean, err := net.Means(d, people)
	want, ok := byWords(t, d, people)
	if !ok {
		says(t, err, api.ErrZero, "Means", ratio.Words(d), "with", people)
		return
	}
	means(t, mean, err, want, "Means", ratio.Words(d), "with", people)
	// (BUZEN, and the arrival theorem): the two ways are one.
	_, there := weigh(t, d, people)
	are(t, mean.Number, err, words(there), "Number", ratio.Words(d), "with", people)
	if people > 0 {
		often := new(big.Rat).Quo(sums[people-1], sums[people])
		is(t, mean.Often, err, often.RatString(), "Often", ratio.Words(d), "with", people)
	}
	is(t, ratio.Sum(mean.Number...), err, strconv.Itoa(people), "people", ratio.Words(d), "with", people)
}

// byWords is what Means tells, by the document's words, with the library's
// numbers; false, if its Times together are 0.
func byWords(t *testing.T, d []ratio.Ratio, people int) (string, bool) {
	t.Helper()
	often := new(big.Rat)
	var time, number []*big.Rat
	for range d {
		time, number = append(time, new(big.Rat)), append(number, new(big.Rat))
	}
	for n := 1; n <= people; n++ {
		all := new(big.Rat)
		for i := range d {
			found := new(big.Rat).Add(big.NewRat(1, 1), number[i])
			time[i] = found.Mul(found, known(t, d[i]))
			all.Add(all, time[i])
		}
		if all.Sign() == 0 {
			return "", false
		}
		often = new(big.Rat).Quo(big.NewRat(int64(n), 1), all)
		for i := range d {
			number[i] = new(big.Rat).Mul(often, time[i])
		}
	}
	return often.RatString() + ";" + words(time) + ";" + words(number), true
}

// 8.4: Means, ordinary, and the edges: nobody, one place, noughts.
func TestMeans(t *testing.T) {
	for _, c := range []struct {
		d      string
		people int
		want   string
	}{
		{"2", 0, "0;0;0"},
		{"2", 1, "1/2;2;1"},
		{"2", 5, "1/2;10;5"},
		{"1 1", 1, "1/2;1 1;1/2 1/2"},
		{"1 1", 2, "2/3;3/2 3/2;1 1"},
		{"1 2", 1, "1/3;1 2;1/3 2/3"},
		{"1 2", 2, "3/7;4/3 10/3;4/7 10/7"},
		{"0 2", 3, "1/2;0 6;0 3"},
		{"2 0", 3, "1/2;6 0;3 0"},
		{"1 1 1 1 1", 20, "5/6;24/5 24/5 24/5 24/5 24/5;4 4 4 4 4"},
		{"1 1/4 1/6", 3, "2676/2741;571/223 283/892 87/446;6852/2741 849/2741 522/2741"},
		{"1 2 3", 0, "0;0 0 0;0 0 0"},
		{"0 0 0", 0, "0;0 0 0;0 0 0"},
		{"0", 0, "0;0;0"},
	} {
		got, err := net.Means(list(t, c.d), c.people)
		means(t, got, err, c.want, "Means", c.d, "with", c.people)
	}
}

// 8.4: all numbers 0: there is nothing to divide by, unless nobody is there.
func TestMeansZero(t *testing.T) {
	for places := 1; places <= api.MaxPlaces; places++ {
		for people := 1; people <= api.MaxMany; people++ {
			got, err := net.Means(make([]ratio.Ratio, places), people)
			says(t, err, api.ErrZero, "Means", places, "places with", people)
			if got.Often.Sign() != 0 || len(got.Time)+len(got.Number) != 0 {
				t.Errorf("%s beside ErrZero", told(got))
			}
		}
		got, err := net.Means(append(make([]ratio.Ratio, places-1), one(t, tiny)), 1)
		says(t, err, api.OK, "Means of a number just above 0")
		is(t, got.Often, err, strings.Repeat("9", api.MaxDigits), "Often")
	}
}

// 8.4: wrong numbers and people; of several errors the one that is told first.
func TestCrowdWrong(t *testing.T) {
	for _, c := range []struct {
		d      string
		people int
		want   api.Errno
	}{
		{"", 0, api.ErrLimit},
		{"", 1, api.ErrLimit},
		{"", -1, api.ErrLimit},
		{"", 21, api.ErrLimit},
		{"1 1 1 1 1 1", 1, api.ErrLimit},
		{"1 1 1 1 1 1", -1, api.ErrLimit},
		{"-1 1 1 1 1 1", 21, api.ErrLimit},
		{"1", -1, api.ErrRange},
		{"1", api.MaxMany + 1, api.ErrRange},
		{"1", math.MinInt, api.ErrRange},
		{"1", math.MaxInt, api.ErrRange},
		{"0", -1, api.ErrRange},
		{"-1", -1, api.ErrRange},
		{"-1", 21, api.ErrRange},
		{"1 1 1 1 1", 21, api.ErrRange},
		{"-1", 0, api.ErrArg},
		{"-1", 1, api.ErrArg},
		{"-~", 1, api.ErrArg},
		{"-1 1", 1, api.ErrArg},
		{"1 -1", 1, api.ErrArg},
		{"0 -1", 1, api.ErrArg},
		{"1 1 1 1 -~", 20, api.ErrArg},
		{"1 1 -1 1 1", 0, api.ErrArg},
		{"0 0 0 0 -~", 20, api.ErrArg},
	} {
		got, err := net.Sums(list(t, c.d), c.people)
		nothing(t, got, err, c.want, "Sums", c.d, "up to", c.people)
		mean, err := net.Means(list(t, c.d), c.people)
		says(t, err, c.want, "Means", c.d, "with", c.people)
		if mean.Often.Sign() != 0 || len(mean.Time)+len(mean.Number) != 0 {
			t.Errorf("Means %s with %d: %s beside an error", c.d, c.people, told(mean))
		}
	}
}

// P4: what is handed in stays as it is, behind its length too.
func TestArgumentsStay(t *testing.T) {
	const open, shut = "0 1/2 1/4;1/3 0 1/3;1/2 1/4 0", "0 1/2 1/2;1/3 1/3 1/3;1/2 1/4 1/4"
	wide := func(text string) [][]ratio.Ratio {
		l := append(rows(t, text), list(t, "9 9"))
		for i := range l {
			l[i] = append(l[i], list(t, "7 8")...)[:len(l[i])]
		}
		return l[:len(l)-1]
	}
	a, b := wide(open), wide(shut)
	in, speeds, loads := list(t, "1 2 3 4"), list(t, "20 30 40 50"), list(t, "1/2 1/3 1/4 5")
	people := numbers(t, "1 2 3 4")
	for _, call := range []func() error{
		func() error { _, err := net.Traffic(in[:3], a); return err },
		func() error { _, err := net.Open(in[:3], a, speeds[:3]); return err },
		func() error { _, err := net.Chance(loads[:3], people[:3]); return err },
		func() error { _, err := net.Closed(b, speeds[:3]); return err },
		func() error { _, err := net.Sums(loads[:3], 4); return err },
		func() error { _, err := net.Means(loads[:3], 4); return err },
	} {
		says(t, call(), api.OK, "a call")
	}
	are(t, in, nil, "1 2 3 4", "in")
	are(t, speeds, nil, "20 30 40 50", "speeds")
	are(t, loads, nil, "1/2 1/3 1/4 5", "loads")
	if !slices.Equal(people, []int{1, 2, 3, 4}) {
		t.Errorf("people: %v", people)
	}
	for text, l := range map[string][][]ratio.Ratio{open: a, shut: b} {
		if written(l) != text {
			t.Errorf("routes %s, want %s", written(l), text)
		}
		l = l[:4]
		for i := range l {
			n := len(l[i])
			are(t, l[i][n:n+2], nil, "7 8", "behind row", i)
		}
		are(t, l[3], nil, "9 9", "behind the rows")
	}
}

// spoil writes over all that a list has, what stands behind its length too.
func spoil[T any](l []T, with T) {
	l = l[:cap(l)]
	for i := range l {
		l[i] = with
	}
}

// P4: answers are the caller's: to write over one changes no other, nothing
// that was handed in, and no later one.
func TestAnswersFresh(t *testing.T) {
	in, speeds, d := list(t, "1 0"), list(t, "3 4"), list(t, "1 2")
	open, shut := rows(t, "0 1;1/2 0"), rows(t, "0 1;1 0")
	for range 3 {
		often, err := net.Traffic(in, open)
		are(t, often, err, "2 2", "Traffic")
		spoil(often, ratio.Whole(9))
		loads, err := net.Open(in, open, speeds)
		are(t, loads, err, "2/3 1/2", "Open")
		spoil(loads, ratio.Whole(9))
		closed, err := net.Closed(shut, speeds)
		are(t, closed, err, "1/3 1/4", "Closed")
		spoil(closed, ratio.Whole(9))
		sums, err := net.Sums(d, 2)
		are(t, sums, err, "1 3 7", "Sums")
		spoil(sums, ratio.Whole(9))
		for _, people := range []int{0, 2} {
			mean, err := net.Means(d, people)
			says(t, err, api.OK, "Means")
			number := ratio.Words(mean.Number)
			spoil(mean.Time, ratio.Whole(9))
			are(t, mean.Number, nil, number, "Number beside Time")
			time := ratio.Words(mean.Time)
			spoil(mean.Number, ratio.Whole(8))
			are(t, mean.Time, nil, time, "Time beside Number")
		}
		are(t, in, nil, "1 0", "in")
		are(t, speeds, nil, "3 4", "speeds")
		are(t, d, nil, "1 2", "d")
		if written(open) != "0 1;1/2 0" || written(shut) != "0 1;1 0" {
			t.Errorf("routes %s and %s", written(open), written(shut))
		}
	}
}
