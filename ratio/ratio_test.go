package ratio_test

import (
	"math"
	"math/big"
	"testing"

	"foresight/api"
	"foresight/ratio"
)

// read is the fraction of a text that must be one.
func read(t *testing.T, text string) ratio.Ratio {
	t.Helper()
	a, err := ratio.Parse(text)
	if err != nil {
		t.Fatalf("Parse(%q): %v", text, err)
	}
	return a
}

// tells fails unless a fraction's text is as wanted.
func tells(t *testing.T, what string, a ratio.Ratio, want string) {
	t.Helper()
	if got := a.Text(); got != want {
		t.Errorf("%s: %s, want %s", what, got, want)
	}
}

// power is a fraction multiplied by itself so many times.
func power(a ratio.Ratio, times int) ratio.Ratio {
	out := ratio.Whole(1)
	for range times {
		out = out.Mul(a)
	}
	return out
}

// 1.1: the zero value is 0, for every call.
func TestZeroValue(t *testing.T) {
	var zero ratio.Ratio
	three := ratio.Whole(3)
	tells(t, "zero", zero, "0")
	tells(t, "0 + 3", zero.Add(three), "3")
	tells(t, "3 + 0", three.Add(zero), "3")
	tells(t, "0 - 3", zero.Sub(three), "-3")
	tells(t, "3 - 0", three.Sub(zero), "3")
	tells(t, "0 - 0", zero.Sub(zero), "0")
	tells(t, "0 * 3", zero.Mul(three), "0")
	tells(t, "3 * 0", three.Mul(zero), "0")
	quotient, err := zero.Div(three)
	tells(t, "0 / 3", quotient, "0")
	if err != nil {
		t.Errorf("0 / 3: %v", err)
	}
	if n, ok := zero.Floor(); n != 0 || !ok {
		t.Errorf("Floor of 0: %d %v", n, ok)
	}
	if zero.Sign() != 0 || zero.Cmp(ratio.Whole(0)) != 0 || zero.Cmp(three) != -1 || three.Cmp(zero) != 1 {
		t.Error("0 is not held right against others")
	}
	tells(t, "3 - 3", three.Sub(three), "0")
}

// 1.1: Whole and Of, with the ends of int.
func TestWholeAndOf(t *testing.T) {
	for n, want := range map[int]string{
		0: "0", 5: "5", -5: "-5",
		math.MaxInt64: "9223372036854775807", math.MinInt64: "-9223372036854775808",
	} {
		tells(t, "Whole", ratio.Whole(n), want)
	}
	for _, c := range []struct {
		over, under int
		want        string
	}{
		{3, 4, "3/4"}, {-3, 4, "-3/4"}, {3, -4, "-3/4"}, {-3, -4, "3/4"},
		{6, 8, "3/4"}, {8, 4, "2"}, {0, 7, "0"}, {0, -7, "0"}, {7, 7, "1"},
		{math.MinInt64, 1, "-9223372036854775808"},
		{math.MinInt64, -1, "9223372036854775808"},
		{math.MinInt64, math.MinInt64, "1"},
		{1, math.MinInt64, "-1/9223372036854775808"},
		{2, math.MinInt64, "-1/4611686018427387904"},
		{math.MaxInt64, math.MinInt64, "-9223372036854775807/9223372036854775808"},
		{math.MaxInt64, math.MaxInt64, "1"},
		{1, math.MaxInt64, "1/9223372036854775807"},
	} {
		a, err := ratio.Of(c.over, c.under)
		if err != nil {
			t.Errorf("Of(%d, %d): %v", c.over, c.under, err)
		}
		tells(t, "Of", a, c.want)
	}
}

// 1.1: ErrZero, a plain Errno, and the zero value beside it (P2, P3).
func TestDividedByZero(t *testing.T) {
	for _, n := range []int{0, 1, -1, math.MaxInt64, math.MinInt64} {
		a, err := ratio.Of(n, 0)
		if err != api.ErrZero || a.Sign() != 0 {
			t.Errorf("Of(%d, 0): %s %v", n, a.Text(), err)
		}
		a, err = ratio.Whole(n).Div(ratio.Ratio{})
		if err != api.ErrZero || a.Sign() != 0 {
			t.Errorf("%d / 0: %s %v", n, a.Text(), err)
		}
	}
	half := read(t, "1/2")
	if a, err := half.Div(half.Sub(half)); err != api.ErrZero || a.Sign() != 0 {
		t.Errorf("1/2 / (1/2 - 1/2): %s %v", a.Text(), err)
	}
}

// 1.1: ordinary sums, differences, products and quotients.
func TestFourWays(t *testing.T) {
	for _, c := range []struct{ a, b, sum, less, times, by string }{
		{"1/2", "1/3", "5/6", "1/6", "1/6", "3/2"},
		{"1/6", "1/3", "1/2", "-1/6", "1/18", "1/2"},
		{"-3/4", "1/4", "-1/2", "-1", "-3/16", "-3"},
		{"-3/4", "-1/4", "-1", "-1/2", "3/16", "3"},
		{"5", "7/2", "17/2", "3/2", "35/2", "10/7"},
		{"2/3", "-3/2", "-5/6", "13/6", "-1", "-4/9"},
		{"10", "-10", "0", "20", "-100", "-1"},
		{"18446744073709551615", "1", "18446744073709551616", "18446744073709551614", "18446744073709551615", "18446744073709551615"},
		{"18446744073709551616", "1/18446744073709551616", "340282366920938463463374607431768211457/18446744073709551616", "340282366920938463463374607431768211455/18446744073709551616", "1", "340282366920938463463374607431768211456"},
	} {
		a, b := read(t, c.a), read(t, c.b)
		by, err := a.Div(b)
		if err != nil {
			t.Errorf("%s / %s: %v", c.a, c.b, err)
		}
		tells(t, c.a+" + "+c.b, a.Add(b), c.sum)
		tells(t, c.a+" - "+c.b, a.Sub(b), c.less)
		tells(t, c.a+" * "+c.b, a.Mul(b), c.times)
		tells(t, c.a+" / "+c.b, by, c.by)
	}
}

// 1.1: Sign and Cmp are -1, 0 or 1.
func TestOrder(t *testing.T) {
	rising := []string{
		"-9999999999999999999999999999999999999999", "-18446744073709551616", "-2", "-3/2", "-1", "-1/2", "-1/9999999999999999999999999999999999999999",
		"0", "1/9999999999999999999999999999999999999999", "1/9999999999999999999999999999999999999998", "1/3", "1/2", "2/3", "1", "3/2", "2",
		"9223372036854775807", "9223372036854775808", "18446744073709551615", "18446744073709551616", "9999999999999999999999999999999999999999",
	}
	zero := 7
	for i, s := range rising {
		a := read(t, s)
		if got, want := a.Sign(), order(i, zero); got != want {
			t.Errorf("Sign of %s: %d, want %d", s, got, want)
		}
		for j, other := range rising {
			if got, want := a.Cmp(read(t, other)), order(i, j); got != want {
				t.Errorf("%s against %s: %d, want %d", s, other, got, want)
			}
		}
	}
}

// order is how two places are held against each other.
func order(i, j int) int {
	switch {
	case i < j:
		return -1
	case i > j:
		return 1
	}
	return 0
}

// 1.1: Floor, and where no int can be it.
func TestFloor(t *testing.T) {
	for _, c := range []struct {
		text string
		want int
		ok   bool
	}{
		{"0", 0, true}, {"1/2", 0, true}, {"-1/2", -1, true}, {"7/2", 3, true}, {"-7/2", -4, true}, {"4", 4, true}, {"-4", -4, true},
		{"9223372036854775807", math.MaxInt64, true},
		{"18446744073709551615/2", math.MaxInt64, true},
		{"9223372036854775808", 0, false},
		{"18446744073709551617/2", 0, false},
		{"-9223372036854775808", math.MinInt64, true},
		{"-18446744073709551615/2", math.MinInt64, true},
		{"-18446744073709551617/2", 0, false},
		{"-9223372036854775809", 0, false},
		{"18446744073709551615", 0, false},
		{"18446744073709551616", 0, false},
		{"-18446744073709551616", 0, false},
		{"9999999999999999999999999999999999999999", 0, false},
		{"-9999999999999999999999999999999999999999", 0, false},
		{"-1/9999999999999999999999999999999999999999", -1, true},
		{"9999999999999999999999999999999999999999/9999999999999999999999999999999999999998", 1, true},
	} {
		if n, ok := read(t, c.text).Floor(); n != c.want || ok != c.ok {
			t.Errorf("Floor of %s: %d %v, want %d %v", c.text, n, ok, c.want, c.ok)
		}
	}
}

// 1.1 and 'Ways': any number of fractions are summed.
func TestSum(t *testing.T) {
	half, third := read(t, "1/2"), read(t, "1/3")
	tells(t, "of none", ratio.Sum(), "0")
	tells(t, "of nil", ratio.Sum(nil...), "0")
	tells(t, "of one", ratio.Sum(third), "1/3")
	tells(t, "of three", ratio.Sum(half, third, half), "4/3")
	tells(t, "of one and its opposite", ratio.Sum(half, ratio.Whole(0).Sub(half)), "0")
	var l []ratio.Ratio
	for i := 1; i <= 1000; i++ {
		part, _ := ratio.Of(1, i*(i+1))
		l = append(l, part)
	}
	tells(t, "of a thousand", ratio.Sum(l...), "1000/1001")
}

// 1.1: Words are the Texts, with a blank between.
func TestWords(t *testing.T) {
	if got := ratio.Words(nil); got != "" {
		t.Errorf("of nil: %q", got)
	}
	if got := ratio.Words([]ratio.Ratio{}); got != "" {
		t.Errorf("of none: %q", got)
	}
	if got := ratio.Words([]ratio.Ratio{{}}); got != "0" {
		t.Errorf("of one: %q", got)
	}
	l := []ratio.Ratio{read(t, "-6/8"), ratio.Whole(5), {}, read(t, "1/3")}
	if got := ratio.Words(l); got != "-3/4 5 0 1/3" {
		t.Errorf("of four: %q", got)
	}
}

// 1.1: numbers far beyond 64 bits are exact, and are told with all digits.
func TestFarBeyondWords(t *testing.T) {
	a := power(read(t, "-2/3"), 1001)
	want := new(big.Rat).SetFrac(
		new(big.Int).Neg(new(big.Int).Exp(big.NewInt(2), big.NewInt(1001), nil)),
		new(big.Int).Exp(big.NewInt(3), big.NewInt(1001), nil))
	tells(t, "(-2/3)^1001", a, want.RatString())
	back := a.Mul(power(read(t, "-3/2"), 1000))
	tells(t, "and back", back, "-2/3")
	tells(t, "10^57", power(ratio.Whole(10), 57), "1"+noughts(57))
	tells(t, "10^58 + 1", power(ratio.Whole(10), 58).Add(ratio.Whole(1)), "1"+noughts(57)+"1")
	tells(t, "10^400 - 10^400", power(ratio.Whole(10), 400).Sub(power(ratio.Whole(10), 400)), "0")
}

// P4: nothing that is handed in is written into, nor what stands behind a
// list's length; and no fraction changes by what is done with it.
func TestNothingIsWritten(t *testing.T) {
	a, b := power(read(t, "7/3"), 90), power(read(t, "-5/14"), 80)
	aText, bText := a.Text(), b.Text()
	list := []ratio.Ratio{a, b, a, b}
	ratio.Sum(list[:2]...)
	ratio.Words(list[:2])
	for range 2 {
		a.Add(b)
		a.Sub(b)
		a.Mul(b)
		a.Cmp(b)
		a.Floor()
		if _, err := a.Div(b); err != nil {
			t.Error(err)
		}
	}
	tells(t, "a", a, aText)
	tells(t, "b", b, bText)
	if got, want := ratio.Words(list), aText+" "+bText+" "+aText+" "+bText; got != want {
		t.Errorf("the list is %s, want %s", got, want)
	}
}

// 1.1: against the library's fractions, for many numbers of many lengths.
func TestAgainstLibrary(t *testing.T) {
	d := die(1)
	for range 3000 {
		a, wantA := drawn(t, &d)
		b, wantB := drawn(t, &d)
		same(t, "a", a, wantA)
		same(t, "a + b", a.Add(b), new(big.Rat).Add(wantA, wantB))
		same(t, "a - b", a.Sub(b), new(big.Rat).Sub(wantA, wantB))
		same(t, "a * b", a.Mul(b), new(big.Rat).Mul(wantA, wantB))
		if a.Cmp(b) != wantA.Cmp(wantB) || a.Sign() != wantA.Sign() {
			t.Fatalf("%s and %s are not held right against each other", a.Text(), b.Text())
		}
		sameFloor(t, a, wantA)
		by, err := a.Div(b)
		if wantB.Sign() == 0 {
			if err != api.ErrZero {
				t.Fatalf("%s / 0: %v", a.Text(), err)
			}
			continue
		}
		same(t, "a / b", by, new(big.Rat).Quo(wantA, wantB))
	}
}

// die is numbers that look drawn, the same each time.
type die uint64

func (d *die) upTo(most int) int {
	*d = *d*6364136223846793005 + 1442695040888963407
	return int(uint64(*d>>33) % uint64(most))
}

// drawn is a fraction of up to some 600 bits, made the same way twice.
func drawn(t *testing.T, d *die) (ratio.Ratio, *big.Rat) {
	t.Helper()
	var a ratio.Ratio
	want := new(big.Rat)
	for range 1 + d.upTo(10) {
		shift, more := []int{1, 10, 1 << 32, math.MaxInt64, math.MinInt64}[d.upTo(5)], d.upTo(5)-2
		under := 1 + d.upTo(30)*d.upTo(1<<20)
		part, err := ratio.Of(more, under)
		if err != nil {
			t.Fatal(err)
		}
		a = a.Mul(ratio.Whole(shift)).Add(part)
		want.Mul(want, new(big.Rat).SetInt64(int64(shift)))
		want.Add(want, big.NewRat(int64(more), int64(under)))
	}
	return a, want
}

// same fails unless a fraction is the library's.
func same(t *testing.T, what string, a ratio.Ratio, want *big.Rat) {
	t.Helper()
	if got := a.Text(); got != want.RatString() {
		t.Fatalf("%s: %s, want %s", what, got, want.RatString())
	}
}

// sameFloor fails unless a fraction's Floor is the library's.
func sameFloor(t *testing.T, a ratio.Ratio, number *big.Rat) {
	t.Helper()
	floor := new(big.Int).Div(number.Num(), number.Denom())
	want := 0
	if floor.IsInt64() {
		want = int(floor.Int64())
	}
	if n, ok := a.Floor(); n != want || ok != floor.IsInt64() {
		t.Fatalf("Floor of %s: %d %v", a.Text(), n, ok)
	}
}
