package roads_test

import (
	"math/big"
	"math/rand"
	"strings"
	"testing"

	"foresight/api"
	"foresight/ratio"
	"foresight/roads"
)

// tiny is the least fraction above 0 that Parse reads.
var tiny = "1/" + strings.Repeat("9", api.MaxDigits)

// one is the fraction of a text that must be one. A tilde is tiny.
func one(t *testing.T, text string) ratio.Ratio {
	t.Helper()
	a, err := ratio.Parse(strings.ReplaceAll(text, "~", tiny))
	if err != nil {
		t.Fatalf("Parse(%q): %v", text, err)
	}
	return a
}

// part is a fraction of two numbers.
func part(over, under int) ratio.Ratio {
	out, _ := ratio.Of(over, under)
	return out
}

// list reads fractions, apart by spaces.
func list(t *testing.T, text string) []ratio.Ratio {
	t.Helper()
	var out []ratio.Ratio
	for word := range strings.FieldsSeq(text) {
		out = append(out, one(t, word))
	}
	return out
}

// some reads roads, apart by semicolons: Free and Slope.
func some(t *testing.T, text string) []roads.Road {
	t.Helper()
	var out []roads.Road
	for road := range strings.SplitSeq(text, ";") {
		l := list(t, road)
		if len(l) != 2 {
			t.Fatalf("%q has %d numbers", road, len(l))
		}
		out = append(out, roads.Road{Free: l[0], Slope: l[1]})
	}
	return out
}

// written writes what some reads.
func written(l []roads.Road) string {
	var out []string
	for _, r := range l {
		out = append(out, r.Free.Text()+" "+r.Slope.Text())
	}
	return strings.Join(out, "; ")
}

// through reads ways, apart by semicolons, a letter a road: 0 is a.
func through(text string) []roads.Way {
	var out []roads.Way
	for word := range strings.SplitSeq(text, ";") {
		var way roads.Way
		for _, letter := range strings.TrimSpace(word) {
			way = append(way, int(letter-'a'))
		}
		out = append(out, way)
	}
	return out
}

// alike is so many roads, with 1 free and a slope of 1.
func alike(n int) []roads.Road {
	out := make([]roads.Road, n)
	for i := range out {
		out[i] = roads.Road{Free: ratio.Whole(1), Slope: ratio.Whole(1)}
	}
	return out
}

// drawn is so many roads that look drawn, some as long free as others.
func drawn(die *rand.Rand, n int) []roads.Road {
	var out []roads.Road
	for range n {
		free := part(die.Intn(12), 1+die.Intn(3))
		out = append(out, roads.Road{Free: free, Slope: part(1+die.Intn(9), 1+die.Intn(5))})
	}
	return out
}

// long is roads whose numbers have many digits, near those of l.
func long(t *testing.T, l []roads.Road) []roads.Road {
	t.Helper()
	var out []roads.Road
	for i, r := range l {
		under := strings.Repeat("9", api.MaxDigits-2) + string([]byte{byte('0' + i/10), byte('0' + i%10)})
		more := one(t, "1/"+under)
		out = append(out, roads.Road{Free: r.Free.Add(more), Slope: r.Slope.Add(more.Mul(more))})
	}
	return out
}

// known is a fraction as the library has it.
func known(t *testing.T, a ratio.Ratio) *big.Rat {
	t.Helper()
	r, ok := new(big.Rat).SetString(a.Text())
	if !ok {
		t.Fatalf("no fraction: %q", a.Text())
	}
	return r
}

// allKnown is fractions as the library has them.
func allKnown(t *testing.T, l []ratio.Ratio) []*big.Rat {
	t.Helper()
	var out []*big.Rat
	for _, a := range l {
		out = append(out, known(t, a))
	}
	return out
}

// product and sum are those of the library, each time a fresh number.
func product(a, b *big.Rat) *big.Rat { return new(big.Rat).Mul(a, b) }
func sum(a, b *big.Rat) *big.Rat     { return new(big.Rat).Add(a, b) }

// takes is how long a road takes, if so much goes it, by the library.
func takes(t *testing.T, r roads.Road, x *big.Rat) *big.Rat {
	t.Helper()
	return sum(known(t, r.Free), product(known(t, r.Slope), x))
}

// words is fractions of the library, as ratio tells them.
func words(l []*big.Rat) string {
	var out []string
	for _, a := range l {
		out = append(out, a.RatString())
	}
	return strings.Join(out, " ")
}

// says fails unless an error is that Errno itself, as no place belongs to it.
func says(t *testing.T, err error, want api.Errno, what ...any) {
	t.Helper()
	if want == api.OK && err == nil {
		return
	}
	if err != error(want) {
		t.Errorf("%.300v: error %v, want %v", what, err, want)
	}
}

// goes fails unless so much goes each road, and takes so long, with no error;
// "Calm" or "Good" says which.
func goes(t *testing.T, which string, l []roads.Road, demand ratio.Ratio, want, wantTime string) {
	t.Helper()
	ask := roads.Calm
	if which == "Good" {
		ask = roads.Good
	}
	x, time, err := ask(l, demand)
	if text := ratio.Words(x); err != nil || text != want || time.Text() != wantTime {
		t.Errorf("%s of %.300s, %s: %.300s in %.300s, error %v, want %.300s in %.300s", which, written(l), demand.Text(), text, time.Text(), err, want, wantTime)
	}
}

// costs fails unless Cost is as wanted, with no error.
func costs(t *testing.T, l []roads.Road, x []ratio.Ratio, want string) {
	t.Helper()
	got, err := roads.Cost(l, x)
	if err != nil || got.Text() != want {
		t.Errorf("Cost of %.300s, %.300s: %.300s, error %v, want %.300s", written(l), ratio.Words(x), got.Text(), err, want)
	}
}

// tolled fails unless Toll is as wanted, with no error.
func tolled(t *testing.T, l []roads.Road, demand ratio.Ratio, want string) {
	t.Helper()
	got, err := roads.Toll(l, demand)
	if text := ratio.Words(got); err != nil || text != want {
		t.Errorf("Toll of %.300s, %s: %.300s, error %v, want %.300s", written(l), demand.Text(), text, err, want)
	}
}

// last fails unless Times and Rest are as wanted, with no error.
func last(t *testing.T, l []roads.Road, ways []roads.Way, flows []ratio.Ratio, want string, wantRest bool) {
	t.Helper()
	times, err := roads.Times(l, ways, flows)
	if text := ratio.Words(times); err != nil || text != want {
		t.Errorf("Times of %.300s, %v, %s: %.300s, error %v, want %.300s", written(l), ways, ratio.Words(flows), text, err, want)
	}
	rest, err := roads.Rest(l, ways, flows)
	if err != nil || rest != wantRest {
		t.Errorf("Rest of %.300s, %v, %s: %v, error %v, want %v", written(l), ways, ratio.Words(flows), rest, err, wantRest)
	}
}

// refusedDemand fails unless Calm, Good and Toll answer an error, and beside it
// nothing.
func refusedDemand(t *testing.T, l []roads.Road, demand ratio.Ratio, want api.Errno, what ...any) {
	t.Helper()
	x, time, err := roads.Calm(l, demand)
	says(t, err, want, "Calm", what, demand.Text())
	y, more, err := roads.Good(l, demand)
	says(t, err, want, "Good", what, demand.Text())
	z, err := roads.Toll(l, demand)
	says(t, err, want, "Toll", what, demand.Text())
	if x != nil || y != nil || z != nil || time.Sign() != 0 || more.Sign() != 0 {
		t.Errorf("%v: %s in %s, %s in %s, %s beside an error", what, ratio.Words(x), time.Text(), ratio.Words(y), more.Text(), ratio.Words(z))
	}
}

// refusedCost fails unless Cost answers an error, and beside it 0.
func refusedCost(t *testing.T, l []roads.Road, x []ratio.Ratio, want api.Errno, what ...any) {
	t.Helper()
	got, err := roads.Cost(l, x)
	says(t, err, want, "Cost", what, ratio.Words(x))
	if got.Sign() != 0 {
		t.Errorf("Cost %v: %s beside an error", what, got.Text())
	}
}

// refusedWays fails unless Times and Rest answer an error, and beside it
// nothing.
func refusedWays(t *testing.T, l []roads.Road, ways []roads.Way, flows []ratio.Ratio, want api.Errno, what ...any) {
	t.Helper()
	times, err := roads.Times(l, ways, flows)
	says(t, err, want, "Times", what)
	rest, err := roads.Rest(l, ways, flows)
	says(t, err, want, "Rest", what)
	if times != nil || rest {
		t.Errorf("%v: %s, %v beside an error", what, ratio.Words(times), rest)
	}
}
