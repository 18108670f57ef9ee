// Package ratio: exact fractions.
package ratio

import (
	"foresight/api"
)

// Ratio is a fraction, which never changes; its zero value is 0.
//
// It is kept lowered, with one form for each number: 0 is the zero value, and
// a whole number has no lower one. So nothing has to be lowered to be told.
type Ratio struct {
	below bool
	over  natural
	under natural // none stands for 1, so that the zero value is a fraction
}

// Whole is a whole number.
func Whole(n int) Ratio {
	return settled(n < 0, word(size(n)), one())
}

// Of is one number divided by another one.
func Of(over, under int) (Ratio, error) {
	if under == 0 {
		return Ratio{}, api.ErrZero
	}
	return lowered((over < 0) != (under < 0), word(size(over)), word(size(under))), nil
}

// Add is a sum.
func (a Ratio) Add(b Ratio) Ratio {
	if a.Sign() == 0 {
		return b
	}
	if b.Sign() == 0 {
		return a
	}
	// Both are lowered already: what the sum and its lower number have in
	// common, the two lower ones have, and that is far less to search.
	common := gcd(a.lower(), b.lower())
	left := a.lower().quotient(common)
	right := b.lower().quotient(common)
	below, over := together(a.below, a.over.mul(right), b.below, b.over.mul(left))
	rest := gcd(over, common)
	return settled(below, over.quotient(rest), left.mul(b.lower().quotient(rest)))
}

// Sub is a difference.
func (a Ratio) Sub(b Ratio) Ratio {
	return a.Add(b.turned())
}

// Mul is a product.
func (a Ratio) Mul(b Ratio) Ratio {
	if a.Sign() == 0 || b.Sign() == 0 {
		return Ratio{}
	}
	// Lowered crosswise ahead of multiplying, the product is lowered already.
	left := gcd(a.over, b.lower())
	right := gcd(b.over, a.lower())
	over := a.over.quotient(left).mul(b.over.quotient(right))
	under := a.lower().quotient(right).mul(b.lower().quotient(left))
	return settled(a.below != b.below, over, under)
}

// Div is a quotient.
func (a Ratio) Div(b Ratio) (Ratio, error) {
	if b.Sign() == 0 {
		return Ratio{}, api.ErrZero
	}
	return a.Mul(settled(b.below, b.lower(), b.over)), nil
}

// Sign is -1, 0 or 1.
func (a Ratio) Sign() int {
	switch {
	case len(a.over) == 0:
		return 0
	case a.below:
		return -1
	}
	return 1
}

// Cmp is -1, 0 or 1: below, like, above another one.
func (a Ratio) Cmp(b Ratio) int {
	if a.Sign() != b.Sign() {
		if a.Sign() < b.Sign() {
			return -1
		}
		return 1
	}
	order := a.over.mul(b.lower()).cmp(b.over.mul(a.lower()))
	if a.below {
		return -order
	}
	return order
}

// Floor is the greatest whole number not above it, if an int can be it.
func (a Ratio) Floor() (int, bool) {
	whole, rest := a.over.divide(a.lower())
	if a.below && len(rest) > 0 {
		whole = whole.add(one())
	}
	return whole.number(a.below)
}

// Sum is that of any number of them.
func Sum(l ...Ratio) Ratio {
	var all Ratio
	for _, a := range l {
		all = all.Add(a)
	}
	return all
}

// lower is the lower number, of whole numbers too.
func (a Ratio) lower() natural {
	if len(a.under) == 0 {
		return one()
	}
	return a.under
}

// turned is the fraction with the other sign.
func (a Ratio) turned() Ratio {
	return settled(!a.below, a.over, a.lower())
}

// lowered is a fraction of any two numbers, the lower one above 0.
func lowered(below bool, over, under natural) Ratio {
	common := gcd(over, under)
	return settled(below, over.quotient(common), under.quotient(common))
}

// settled is a fraction of two numbers that have nothing in common, in the
// one form that it has.
func settled(below bool, over, under natural) Ratio {
	if len(over) == 0 {
		return Ratio{}
	}
	if under.isOne() {
		under = nil
	}
	return Ratio{below: below, over: over, under: under}
}

// together is the sum of two whole numbers, each with its sign.
func together(aBelow bool, a natural, bBelow bool, b natural) (bool, natural) {
	if aBelow == bBelow {
		return aBelow, a.add(b)
	}
	if a.cmp(b) < 0 {
		return bBelow, b.sub(a)
	}
	return aBelow, a.sub(b)
}
