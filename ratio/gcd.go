package ratio

import (
	"math/bits"
	"slices"
)

// gcd is the greatest number that divides both (of 0 and another one: the
// other one).
func gcd(a, b natural) natural {
	if a.isOne() || b.isOne() {
		return one()
	}
	if a.cmp(b) < 0 {
		a, b = b, a
	}
	if len(b) > 1 {
		a, b = reduced(slices.Clone(a), slices.Clone(b))
	}
	if len(b) == 0 {
		return a
	}
	_, rest := a.divideWord(b[0])
	return word(gcdWord(b[0], rest))
}

// gcdWord is gcd of words.
func gcdWord(a, b uint64) uint64 {
	for b != 0 {
		a, b = b, a%b
	}
	return a
}

// reduced is two numbers with the same gcd, of which the lesser one, the
// second, has at most a word; b is the lesser one here, too. It writes into
// both. (Lehmer: to divide long numbers by each other costs much and makes
// them hardly less; what many such steps come to is found by the upper words
// alone, and done at once.)
func reduced(a, b natural) (natural, natural) {
	for len(b) > 1 {
		if s, ok := foresee(a, b); ok {
			a, b = s.done(a, b)
			continue
		}
		_, rest := a.divide(b)
		a, b = b, rest
	}
	return a, b
}

// steps is what several steps of Euclid's come to: of two numbers a and b
// they make p*a - q*b and r*b - s*a, with a for b and b for a if swap is set.
type steps struct {
	p, q, r, s uint64
	swap       bool
}

// foresee is the steps that are sure by the upper 64 bits of a and of b alone
// (by the condition of Collins); none, if there are fewer than two. There are
// at least two words of a and of b, and b is not above a.
func foresee(a, b natural) (steps, bool) {
	n := len(a)
	shift := uint(bits.LeadingZeros64(a[n-1]))
	x := a[n-1]<<shift | a[n-2]>>(64-shift)
	var y uint64
	switch len(b) {
	case n:
		y = b[n-1]<<shift | b[n-2]>>(64-shift)
	case n - 1:
		y = b[n-2] >> (64 - shift)
	}
	// Each number on the way is so many a less so many b, or the other way
	// round, by turns: those of the one ahead of x, of x, and of y.
	var a0, a1, a2 uint64 = 0, 1, 0
	var b0, b1, b2 uint64 = 0, 0, 1
	swap := true
	for y >= b2 && x-y >= b1+b2 {
		times := x / y
		x, y = y, x%y
		a0, a1, a2 = a1, a2, a1+times*a2
		b0, b1, b2 = b1, b2, b1+times*b2
		swap = !swap
	}
	if swap {
		return steps{p: b0, q: a0, r: a1, s: b1, swap: true}, b0 != 0
	}
	return steps{p: a0, q: b0, r: b1, s: a1}, b0 != 0
}

// done does the steps, in the memory of a and b. What comes of them is not
// above b: the words of a beyond its length come to nothing.
func (s steps) done(a, b natural) (natural, natural) {
	a = a[:len(b)]
	if s.swap {
		a, b = b, a
	}
	first := mix{plus: s.p, minus: s.q}
	second := mix{plus: s.r, minus: s.s}
	for i := range a {
		a[i], b[i] = first.next(a[i], b[i]), second.next(b[i], a[i])
	}
	return a.trimmed(), b.trimmed()
}

// mix is so many times one number less so many times another one, reckoned
// from the lowest words up: what is carried on from the words so far.
type mix struct {
	plus, minus      uint64
	carried, charged uint64
	borrow           uint64
}

// next is its next word, by the next ones of both numbers.
func (m *mix) next(x, y uint64) uint64 {
	var add, take uint64
	m.carried, add = mulAdd(m.plus, x, 0, m.carried)
	m.charged, take = mulAdd(m.minus, y, 0, m.charged)
	add, m.borrow = bits.Sub64(add, take, m.borrow)
	return add
}
