// Package equations: as many equations as there are unknown numbers, in exact fractions.
package equations

import (
	"foresight/ratio"
)

// Solve is the x by which each row, its numbers times those of x, is together what stands for it in right; false, unless there is just one such x (or if there are not as many numbers in each row, and in right, as there are rows).
func Solve(rows [][]ratio.Ratio, right []ratio.Ratio) ([]ratio.Ratio, bool) {
	if !square(rows, right) {
		return nil, false
	}
	l := joined(rows, right)
	for k := range l {
		if !brought(l[k:], k) {
			return nil, false
		}
		for _, row := range l[k+1:] {
			takeAway(row, l[k], k)
		}
	}
	return back(l), true
}

// square says whether there are as many numbers in each row, and in right, as
// there are rows.
func square(rows [][]ratio.Ratio, right []ratio.Ratio) bool {
	for _, row := range rows {
		if len(row) != len(rows) {
			return false
		}
	}
	return len(right) == len(rows)
}

// joined is copies of rows, each with what stands for it in right behind it.
func joined(rows [][]ratio.Ratio, right []ratio.Ratio) [][]ratio.Ratio {
	out := make([][]ratio.Ratio, len(rows))
	for i, row := range rows {
		out[i] = make([]ratio.Ratio, len(row)+1)
		copy(out[i], row)
		out[i][len(row)] = right[i]
	}
	return out
}

// brought changes a row whose number at k is not 0 with the first one; false,
// if there is no such row.
func brought(l [][]ratio.Ratio, k int) bool {
	for i, row := range l {
		if row[k].Sign() != 0 {
			l[0], l[i] = row, l[0]
			return true
		}
	}
	return false
}

// takeAway takes as much of another row from a row as makes its number at k 0:
// that one is not looked at any more, so what stands behind it is enough. The
// other one's number at k is not 0.
func takeAway(row, other []ratio.Ratio, k int) {
	times := divided(row[k], other[k])
	for i := k + 1; i < len(row); i++ {
		row[i] = row[i].Sub(times.Mul(other[i]))
	}
}

// back is the unknown numbers, from the last on, where each row counts from its
// own one on, and is not 0 there.
func back(l [][]ratio.Ratio) []ratio.Ratio {
	n := len(l)
	out := make([]ratio.Ratio, n)
	for k := n - 1; k >= 0; k-- {
		rest := l[k][n]
		for i := k + 1; i < n; i++ {
			rest = rest.Sub(l[k][i].Mul(out[i]))
		}
		out[k] = divided(rest, l[k][k])
	}
	return out
}

// divided is a quotient by a number that the caller knows is not 0.
func divided(a, b ratio.Ratio) ratio.Ratio {
	out, _ := a.Div(b)
	return out
}
