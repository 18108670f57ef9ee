package ratio

import (
	"math"
	"math/big"
	"slices"
	"testing"
)

// edgy is words at which carrying and guessing go wrong, if ever.
func edgy() []uint64 {
	return []uint64{0, 1, 2, 1<<32 - 1, 1 << 32, 1<<63 - 1, 1 << 63, 1<<63 + 1, math.MaxUint64 - 1, math.MaxUint64, 0x9e3779b97f4a7c15}
}

// drawn is a number of at most so many words, many of them edgy ones.
func drawn(seed *uint64, most int) natural {
	next := func() uint64 {
		*seed = *seed*6364136223846793005 + 1442695040888963407
		return *seed>>32 ^ *seed<<31
	}
	words := edgy()
	out := make(natural, next()%uint64(most+1))
	for i := range out {
		out[i] = next()
		if next()%4 != 0 {
			out[i] = words[next()%uint64(len(words))]
		}
	}
	return out.trimmed()
}

// library is the same number of the library.
func library(a natural) *big.Int {
	out := new(big.Int)
	for i := len(a) - 1; i >= 0; i-- {
		out.Lsh(out, 64).Or(out, new(big.Int).SetUint64(a[i]))
	}
	return out
}

// is fails unless a number is the library's, without noughts at its end.
func is(t *testing.T, what string, a natural, want *big.Int) {
	t.Helper()
	if library(a).Cmp(want) != 0 || len(a) > 0 && a[len(a)-1] == 0 {
		t.Fatalf("%s: %x, want %x", what, a, want)
	}
}

// 1.1: numbers of any size are added, multiplied and divided right.
func TestNaturals(t *testing.T) {
	seed := uint64(1)
	for range 50000 {
		a, b := drawn(&seed, 9), drawn(&seed, 5)
		oldA, oldB := slices.Clone(a), slices.Clone(b)
		x, y := library(a), library(b)
		is(t, "sum", a.add(b), new(big.Int).Add(x, y))
		is(t, "product", a.mul(b), new(big.Int).Mul(x, y))
		if a.cmp(b) != x.Cmp(y) {
			t.Fatalf("%x against %x", a, b)
		}
		if a.cmp(b) >= 0 {
			is(t, "difference", a.sub(b), new(big.Int).Sub(x, y))
		}
		if len(b) > 0 {
			whole, rest := a.divide(b)
			wantWhole, wantRest := new(big.Int).QuoRem(x, y, new(big.Int))
			is(t, "quotient", whole, wantWhole)
			is(t, "rest", rest, wantRest)
		}
		if a.text() != x.String() {
			t.Fatalf("text: %s, want %s", a.text(), x)
		}
		if !slices.Equal(a, oldA) || !slices.Equal(b, oldB) {
			t.Fatal("a number was written into")
		}
	}
}

// 1.1: a digit that was guessed once too great is put right.
func TestDivideGuessTooGreat(t *testing.T) {
	a := natural{0, 0, 1 << 63, 1<<63 - 1}
	b := natural{1, 0, 1 << 63}
	whole, rest := a.divide(b)
	wantWhole, wantRest := new(big.Int).QuoRem(library(a), library(b), new(big.Int))
	is(t, "quotient", whole, wantWhole)
	is(t, "rest", rest, wantRest)
	part := slices.Clone(a)
	if guess(part, b) != whole[0]+1 {
		t.Error("this guess was to be too great")
	}
}

// 1.1: what two numbers have in common, long ones and near ones too.
func TestGcd(t *testing.T) {
	seed := uint64(2)
	for i := range 20000 {
		most := 1 + i%12
		common := drawn(&seed, most)
		a, b := drawn(&seed, most).mul(common), drawn(&seed, most).mul(common)
		if i%3 == 0 {
			b = a.add(drawn(&seed, most))
		}
		oldA, oldB := slices.Clone(a), slices.Clone(b)
		is(t, "gcd", gcd(a, b), new(big.Int).GCD(nil, nil, library(a), library(b)))
		if !slices.Equal(a, oldA) || !slices.Equal(b, oldB) {
			t.Fatal("a number was written into")
		}
	}
}

// 1.1: neighbours of Fibonacci's take the most steps.
func TestGcdOfMostSteps(t *testing.T) {
	a, b := one(), one()
	for range 3000 {
		a, b = a.add(b), a
		is(t, "gcd", gcd(a, b), big.NewInt(1))
	}
	is(t, "gcd of multiples", gcd(a.mul(a), a.mul(b)), library(a))
}
