package seats_test

import (
	"math/big"
	"math/rand"
	"slices"
	"strconv"
	"strings"
	"testing"

	"foresight/api"
	"foresight/chance"
	"foresight/ratio"
	"foresight/seats"
)

// The document's bounds.
const (
	mostPrice = 100_000
	mostSeats = 60
)

// tiny is the least fraction above 0 that Parse reads.
var tiny = "1/" + strings.Repeat("9", api.MaxDigits)

// one is the fraction of a text that must be one. A tilde is tiny.
func one(t *testing.T, text string) ratio.Ratio {
	t.Helper()
	a, err := ratio.Parse(strings.ReplaceAll(text, "~", tiny))
	if err != nil {
		t.Fatalf("Parse(%q): %v", text, err)
	}
	return a
}

// part is a fraction of two numbers.
func part(over, under int) ratio.Ratio {
	out, _ := ratio.Of(over, under)
	return out
}

// law reads fractions, apart by spaces.
func law(t *testing.T, text string) chance.Law {
	t.Helper()
	var out chance.Law
	for word := range strings.FieldsSeq(text) {
		out = append(out, one(t, word))
	}
	return out
}

// sure is the law of an amount that is certain.
func sure(amount int) chance.Law { return append(make(chance.Law, amount), ratio.Whole(1)) }

// even is a law of so many like numbers.
func even(n int) chance.Law { return slices.Repeat(chance.Law{part(1, n)}, n) }

// fares reads classes, apart by semicolons: the price, then the law.
func fares(t *testing.T, text string) []seats.Fare {
	t.Helper()
	var out []seats.Fare
	for class := range strings.SplitSeq(text, ";") {
		price, asks, _ := strings.Cut(strings.TrimSpace(class), " ")
		n, err := strconv.Atoi(price)
		if err != nil {
			t.Fatalf("%q: %v", text, err)
		}
		out = append(out, seats.Fare{Price: n, Asks: law(t, asks)})
	}
	return out
}

// written writes what fares reads.
func written(l []seats.Fare) string {
	var out []string
	for _, f := range l {
		out = append(out, strconv.Itoa(f.Price)+" "+ratio.Words(f.Asks))
	}
	return strings.Join(out, "; ")
}

// example is the document's.
const example = "300 1/4 1/4 1/4 1/4; 200 1/2 0 1/2; 100 0 0 0 1"

// plain is so many classes that may be, each dearer by 10 than the next.
func plain(n int) []seats.Fare {
	var out []seats.Fare
	for class := range n {
		out = append(out, seats.Fare{Price: 10 * (n - class), Asks: even(3)})
	}
	return out
}

// drawn is so many classes that look drawn, with noughts in their laws, and
// like prices among them; at most so many of a class ask.
func drawn(die *rand.Rand, n, most int) []seats.Fare {
	var out []seats.Fare
	price := 20 + die.Intn(80)
	for range n {
		weights, all := make([]int, 1+die.Intn(most+1)), 0
		for i := range weights {
			weights[i] = max(0, die.Intn(7)-2)
		}
		weights[die.Intn(len(weights))]++
		for _, w := range weights {
			all += w
		}
		f := seats.Fare{Price: price}
		for _, w := range weights {
			f.Asks = append(f.Asks, part(w, all))
		}
		out = append(out, f)
		price = max(1, price-die.Intn(4)*die.Intn(12))
	}
	return out
}

// long is classes with laws of many digits, each its own, near those of l.
func long(t *testing.T, l []seats.Fare) []seats.Fare {
	t.Helper()
	var out []seats.Fare
	for class, f := range l {
		asks, left := slices.Clone(f.Asks), ratio.Whole(1)
		for n := range len(asks) - 1 {
			under := strings.Repeat("9", api.MaxDigits-3) + strconv.Itoa(100+10*class+n)
			asks[n] = asks[n].Mul(ratio.Whole(1).Sub(one(t, "1/"+under)))
			left = left.Sub(asks[n])
		}
		asks[len(asks)-1] = left
		out = append(out, seats.Fare{Price: f.Price, Asks: asks})
	}
	return out
}

// known is a fraction as the library has it.
func known(t *testing.T, a ratio.Ratio) *big.Rat {
	t.Helper()
	r, ok := new(big.Rat).SetString(a.Text())
	if !ok {
		t.Fatalf("no fraction: %q", a.Text())
	}
	return r
}

// whole is a number as the library's fraction.
func whole(n int) *big.Rat { return big.NewRat(int64(n), 1) }

// words is fractions of the library, as ratio tells them.
func words(l []*big.Rat) string {
	var out []string
	for _, a := range l {
		out = append(out, a.RatString())
	}
	return strings.Join(out, " ")
}

// says fails unless an error is that Errno itself, as no place belongs to it.
func says(t *testing.T, err error, want api.Errno, what ...any) {
	t.Helper()
	if want == api.OK && err == nil {
		return
	}
	if err != error(want) {
		t.Errorf("%.300v: error %v, want %v", what, err, want)
	}
}

// worth fails unless Worth is as wanted, with no error.
func worth(t *testing.T, l []seats.Fare, classes, n int, want string) {
	t.Helper()
	got, err := seats.Worth(l, classes, n)
	if text := ratio.Words(got); err != nil || text != want {
		t.Errorf("Worth of %.300s, %d, %d: %.300s, error %v, want %.300s", written(l), classes, n, text, err, want)
	}
}

// kept fails unless Keep is as wanted, with no error.
func kept(t *testing.T, l []seats.Fare, n int, want []int) {
	t.Helper()
	got, err := seats.Keep(l, n)
	if err != nil || !slices.Equal(got, want) {
		t.Errorf("Keep of %.300s, %d: %v, error %v, want %v", written(l), n, got, err, want)
	}
}

// sold fails unless Sell is as wanted, with no error.
func sold(t *testing.T, l []seats.Fare, n int, keep []int, want string) {
	t.Helper()
	got, err := seats.Sell(l, n, keep)
	if err != nil || got.Text() != want {
		t.Errorf("Sell of %.300s, %d, %v: %.300s, error %v, want %.300s", written(l), n, keep, got.Text(), err, want)
	}
}

// littlewood fails unless Littlewood is as wanted, with no error.
func littlewood(t *testing.T, dear seats.Fare, cheap, want int) {
	t.Helper()
	got, err := seats.Littlewood(dear, cheap)
	if err != nil || got != want {
		t.Errorf("Littlewood of %.300s, %d: %d, error %v, want %d", written([]seats.Fare{dear}), cheap, got, err, want)
	}
}

// refusedLittlewood fails unless Littlewood answers an error, and beside it 0.
func refusedLittlewood(t *testing.T, dear seats.Fare, cheap int, want api.Errno, what ...any) {
	t.Helper()
	got, err := seats.Littlewood(dear, cheap)
	says(t, err, want, "Littlewood", what, cheap)
	if got != 0 {
		t.Errorf("Littlewood %v: %d beside an error", what, got)
	}
}

// refusedWorth fails unless Worth answers an error, and beside it nothing.
func refusedWorth(t *testing.T, l []seats.Fare, classes, n int, want api.Errno, what ...any) {
	t.Helper()
	got, err := seats.Worth(l, classes, n)
	says(t, err, want, "Worth", what, classes, n)
	if got != nil {
		t.Errorf("Worth %v: %s beside an error", what, ratio.Words(got))
	}
}

// refusedKeep fails unless Keep answers an error, and beside it nothing.
func refusedKeep(t *testing.T, l []seats.Fare, n int, want api.Errno, what ...any) {
	t.Helper()
	got, err := seats.Keep(l, n)
	says(t, err, want, "Keep", what, n)
	if got != nil {
		t.Errorf("Keep %v: %v beside an error", what, got)
	}
}

// refusedSell fails unless Sell answers an error, and beside it 0.
func refusedSell(t *testing.T, l []seats.Fare, n int, keep []int, want api.Errno, what ...any) {
	t.Helper()
	got, err := seats.Sell(l, n, keep)
	says(t, err, want, "Sell", what, n, keep)
	if got.Sign() != 0 {
		t.Errorf("Sell %v: %s beside an error", what, got.Text())
	}
}
