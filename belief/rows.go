package belief

import (
	"slices"

	"foresight/ratio"
)

// fromFirst is, of each time, how likely it is for each state that it comes then, and that the signs up to it are seen.
func fromFirst(h Hidden, signs []int) [][]ratio.Ratio {
	var out [][]ratio.Ratio
	for time, sign := range signs {
		come := h.First
		if time > 0 {
			come = following(h, out[time-1])
		}
		out = append(out, withSign(h, come, sign))
	}
	return out
}

// fromEnd is, of each time, what is told for each state of the signs behind it: 1 at the last time; else what over makes of how likely each state comes next, and of what is told then with its sign.
func fromEnd(h Hidden, signs []int, over func(shares, told []ratio.Ratio) ratio.Ratio) [][]ratio.Ratio {
	out := make([][]ratio.Ratio, len(signs))
	last := len(signs) - 1
	for time := last; time >= 0; time-- {
		if time == last {
			out[time] = slices.Repeat([]ratio.Ratio{ratio.Whole(1)}, len(h.First))
			continue
		}
		told := withSign(h, out[time+1], signs[time+1])
		for state := range len(h.First) {
			out[time] = append(out[time], over(h.Next[state], told))
		}
	}
	return out
}

// withSign is what is told of each state, times how likely it gives a sign.
func withSign(h Hidden, told []ratio.Ratio, sign int) []ratio.Ratio {
	out := make([]ratio.Ratio, len(told))
	for state := range len(told) {
		out[state] = told[state].Mul(h.Sign[state][sign])
	}
	return out
}

// following is how likely each state comes behind one that is as likely as a row tells.
func following(h Hidden, row []ratio.Ratio) []ratio.Ratio {
	out := make([]ratio.Ratio, len(row))
	for from, likely := range row {
		for state, share := range h.Next[from] {
			out[state] = out[state].Add(likely.Mul(share))
		}
	}
	return out
}

// mean is that of what is told of states, which have such shares.
func mean(shares, told []ratio.Ratio) ratio.Ratio {
	var sum ratio.Ratio
	for state, share := range shares {
		sum = sum.Add(share.Mul(told[state]))
	}
	return sum
}

// most is the greatest of what is told of states, each times its share.
func most(shares, told []ratio.Ratio) ratio.Ratio {
	state := likeliest(shares, told)
	return shares[state].Mul(told[state])
}

// likeliest is the state with the greatest of what is told, each times its share; of like ones the first.
func likeliest(shares, told []ratio.Ratio) int {
	best, greatest := 0, shares[0].Mul(told[0])
	for state := range len(shares) {
		if likely := shares[state].Mul(told[state]); likely.Cmp(greatest) > 0 {
			best, greatest = state, likely
		}
	}
	return best
}

// seen is how likely all signs are seen, by the rows of fromFirst.
func seen(rows [][]ratio.Ratio) ratio.Ratio {
	if len(rows) == 0 {
		return ratio.Whole(1)
	}
	return ratio.Sum(rows[len(rows)-1]...)
}

// divided is a row, each of it divided by a fraction that isn't 0.
func divided(row []ratio.Ratio, by ratio.Ratio) []ratio.Ratio {
	out := make([]ratio.Ratio, len(row))
	for state := range len(row) {
		out[state], _ = row[state].Div(by)
	}
	return out
}
