package ratio

import (
	"math"
	"math/bits"
)

// natural is a whole number not below 0: words of 64 bits, the least first,
// the last one above 0; 0 has none. Once made it is never written into, so
// that numbers may share their words.
type natural []uint64

// one is 1.
func one() natural { return natural{1} }

// word is a number of one word.
func word(n uint64) natural {
	if n == 0 {
		return nil
	}
	return natural{n}
}

// size is how far a number is from 0. (The least int has no opposite one:
// turned as a word, it is right all the same.)
func size(n int) uint64 {
	if n < 0 {
		return -uint64(n)
	}
	return uint64(n)
}

// number is it, or its opposite, as an int, if an int can be it.
func (a natural) number(below bool) (int, bool) {
	if len(a) == 0 {
		return 0, true
	}
	if len(a) > 1 {
		return 0, false
	}
	if below && a[0] <= 1<<63 {
		return int(-a[0]), true
	}
	if !below && a[0] <= math.MaxInt64 {
		return int(a[0]), true
	}
	return 0, false
}

// isOne says whether it is 1.
func (a natural) isOne() bool { return len(a) == 1 && a[0] == 1 }

// trimmed is it without words of 0 at its upper end.
func (a natural) trimmed() natural {
	for len(a) > 0 && a[len(a)-1] == 0 {
		a = a[:len(a)-1]
	}
	return a
}

// cmp is -1, 0 or 1: below, like, above another one.
func (a natural) cmp(b natural) int {
	if len(a) != len(b) {
		if len(a) < len(b) {
			return -1
		}
		return 1
	}
	for i := len(a) - 1; i >= 0; i-- {
		if a[i] != b[i] {
			if a[i] < b[i] {
				return -1
			}
			return 1
		}
	}
	return 0
}

// add is a sum.
func (a natural) add(b natural) natural {
	if len(a) < len(b) {
		a, b = b, a
	}
	out := make(natural, len(a)+1)
	copy(out, a)
	addInto(out, b)
	return out.trimmed()
}

// sub is what a is above b, which isn't above it.
func (a natural) sub(b natural) natural {
	out := make(natural, len(a))
	var borrow uint64
	for i := range out {
		var other uint64
		if i < len(b) {
			other = b[i]
		}
		out[i], borrow = bits.Sub64(a[i], other, borrow)
	}
	return out.trimmed()
}

// mul is a product.
func (a natural) mul(b natural) natural {
	if len(a) == 0 || len(b) == 0 {
		return nil
	}
	if a.isOne() {
		return b
	}
	if b.isOne() {
		return a
	}
	out := make(natural, len(a)+len(b))
	for i, x := range a {
		var carry uint64
		for j, y := range b {
			carry, out[i+j] = mulAdd(x, y, out[i+j], carry)
		}
		out[i+len(b)] = carry
	}
	return out.trimmed()
}

// mulAdd is x times y and two words more, which two words always hold.
func mulAdd(x, y, more, carry uint64) (high, low uint64) {
	high, low = bits.Mul64(x, y)
	low, over := bits.Add64(low, more, 0)
	high += over
	low, over = bits.Add64(low, carry, 0)
	return high + over, low
}

// addInto adds b to the words of a, which are no fewer; what goes beyond
// their end is lost.
func addInto(a, b natural) {
	var carry uint64
	for i := range a {
		var other uint64
		if i < len(b) {
			other = b[i]
		}
		a[i], carry = bits.Add64(a[i], other, carry)
	}
}
