package ratio

import (
	"math"
	"math/bits"
)

// quotient is how often b, which isn't 0, is in a.
func (a natural) quotient(b natural) natural {
	if b.isOne() {
		return a
	}
	whole, _ := a.divide(b)
	return whole
}

// divide is how often b, which isn't 0, is in a, and what is left: as by
// hand, a digit at a time, with words for digits (Knuth's algorithm D).
func (a natural) divide(b natural) (whole, rest natural) {
	if a.cmp(b) < 0 {
		return nil, a
	}
	if len(b) == 1 {
		whole, last := a.divideWord(b[0])
		return whole, word(last)
	}
	// With the highest bit of b set a digit that is guessed by the upper
	// words alone is hardly ever wrong, and never by much.
	shift := uint(bits.LeadingZeros64(b[len(b)-1]))
	b = b.shifted(shift).trimmed()
	left := a.shifted(shift)
	whole = make(natural, len(left)-len(b))
	for i := len(whole) - 1; i >= 0; i-- {
		whole[i] = takeAway(left[i:i+len(b)+1], b)
	}
	unshift(left, shift)
	return whole.trimmed(), left.trimmed()
}

// divideWord is divide by one word, which isn't 0.
func (a natural) divideWord(b uint64) (natural, uint64) {
	whole := make(natural, len(a))
	copy(whole, a)
	rest := divideInto(whole, b)
	return whole.trimmed(), rest
}

// divideInto puts how often b is in a in its place, and is what is left.
func divideInto(a natural, b uint64) uint64 {
	var rest uint64
	for i := len(a) - 1; i >= 0; i-- {
		a[i], rest = bits.Div64(rest, a[i], b)
	}
	return rest
}

// shifted is it times 2^shift, with a word more than it has (perhaps 0);
// shift is below 64.
func (a natural) shifted(shift uint) natural {
	out := make(natural, len(a)+1)
	var carry uint64
	for i, x := range a {
		out[i] = x<<shift | carry
		carry = x >> (64 - shift)
	}
	out[len(a)] = carry
	return out
}

// unshift divides the words of a by 2^shift in their place.
func unshift(a natural, shift uint) {
	var carry uint64
	for i := len(a) - 1; i >= 0; i-- {
		x := a[i]
		a[i] = x>>shift | carry
		carry = x << (64 - shift)
	}
}

// takeAway takes b away from part, which has a word more, as often as it goes
// (less than 2^64 times), and is how often that was.
func takeAway(part, b natural) uint64 {
	times := guess(part, b)
	if takeTimes(part, b, times) {
		addInto(part, b)
		times--
	}
	return times
}

// guess is how often b is in part, or once more, by their upper words.
func guess(part, b natural) uint64 {
	n := len(b)
	top, next := b[n-1], b[n-2]
	var times, rest, over uint64
	if part[n] >= top {
		times = math.MaxUint64
		rest, over = bits.Add64(part[n-1], top, 0)
	} else {
		times, rest = bits.Div64(part[n], part[n-1], top)
	}
	for over == 0 {
		high, low := bits.Mul64(times, next)
		if high < rest || high == rest && low <= part[n-2] {
			break
		}
		times--
		rest, over = bits.Add64(rest, top, 0)
	}
	return times
}

// takeTimes takes b away from part so many times, and says whether that was
// more than there is: part is too great by 2^64 to the power of its length then.
func takeTimes(part, b natural, times uint64) bool {
	var carry, borrow uint64
	for i, x := range b {
		var low uint64
		carry, low = mulAdd(x, times, 0, carry)
		part[i], borrow = bits.Sub64(part[i], low, borrow)
	}
	part[len(b)], borrow = bits.Sub64(part[len(b)], carry, borrow)
	return borrow != 0
}
