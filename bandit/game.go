package bandit

import (
	"slices"

	"foresight/choice"
	"foresight/ratio"
)

// game is two arms of which one is pulled each time. A pair is a state of each of them; for each pair there is what comes of pulling the one arm, and the other one.
type game struct {
	a, b  []choice.Act
	worth ratio.Ratio
	first func(p int) bool // whether a goes first in a pair, else b
}

// newGame is the game in which the arm with the greater index goes first, of like ones a.
func newGame(a, b Arm, worth ratio.Ratio) game {
	x, y := indices(a, worth), indices(b, worth)
	g := game{worth: worth, first: func(p int) bool {
		return x[p/len(y)].Cmp(y[p%len(y)]) >= 0
	}}
	nextA, nextB := square(len(x)*len(y)), square(len(x)*len(y))
	for p := range nextA {
		i, k := p/len(y), p%len(y)
		for j, share := range a.Next[i] {
			nextA[p][pair(b, j, k)] = share
		}
		for j, share := range b.Next[k] {
			nextB[p][pair(b, i, j)] = share
		}
		g.a = append(g.a, choice.Act{Gain: a.Pay[i], Next: nextA[p]})
		g.b = append(g.b, choice.Act{Gain: b.Pay[k], Next: nextB[p]})
	}
	return g
}

// pair is the number of a pair: the other arm's state is i, and b's is k.
func pair(b Arm, i, k int) int { return i*len(b.Pay) + k }

// pulled is what is done in a pair: the arm that goes first is pulled.
func (g game) pulled(p int) choice.Act {
	if g.first(p) {
		return g.a[p]
	}
	return g.b[p]
}

// worthOf is what a pull is worth, if pairs are worth v then.
func (g game) worthOf(pull choice.Act, v []ratio.Ratio) ratio.Ratio {
	var mean ratio.Ratio
	for next, share := range pull.Next {
		mean = mean.Add(share.Mul(v[next]))
	}
	return pull.Gain.Add(g.worth.Mul(mean))
}

// followed is what each pair is worth a time ahead of v, if the arm that goes first is pulled.
func (g game) followed(v []ratio.Ratio) []ratio.Ratio {
	out := make([]ratio.Ratio, len(v))
	for p := range out {
		out[p] = g.worthOf(g.pulled(p), v)
	}
	return out
}

// bettered is what each pair is worth a time ahead of v, if the arm is pulled that is worth more.
func (g game) bettered(v []ratio.Ratio) []ratio.Ratio {
	out := make([]ratio.Ratio, len(v))
	for p := range out {
		both := []ratio.Ratio{g.worthOf(g.a[p], v), g.worthOf(g.b[p], v)}
		out[p] = slices.MaxFunc(both, ratio.Ratio.Cmp)
	}
	return out
}

// ever is what each pair is worth, if the arm that goes first is pulled, for ever.
func (g game) ever() []ratio.Ratio {
	gains, next := make([]ratio.Ratio, len(g.a)), make([][]ratio.Ratio, len(g.a))
	for p := range gains {
		pull := g.pulled(p)
		gains[p], next[p] = pull.Gain, pull.Next
	}
	return forever(gains, next, g.worth)
}

// best is what each pair is worth for ever, if one does the best that can be done. It is found by better and better plans (Howard), from the game's own one on: by Gittins that one is the best, but nothing hangs on it here.
func (g game) best() []ratio.Ratio {
	// This ends: each plan is worth no less than the one before it anywhere, and more somewhere, so none comes twice.
	for {
		v := g.ever()
		ahead := g.bettered(v)
		if slices.EqualFunc(ahead, v, func(x, y ratio.Ratio) bool { return x.Cmp(y) == 0 }) {
			return v
		}
		g.first = func(p int) bool { return g.worthOf(g.a[p], v).Cmp(ahead[p]) == 0 }
	}
}
