package equations_test

import (
	"math/big"
	"math/rand"
	"slices"
	"strings"
	"testing"

	"foresight/equations"
	"foresight/ratio"
)

// list reads fractions, apart by spaces.
func list(t *testing.T, text string) []ratio.Ratio {
	t.Helper()
	var out []ratio.Ratio
	for word := range strings.FieldsSeq(text) {
		a, err := ratio.Parse(word)
		if err != nil {
			t.Fatalf("Parse(%q): %v", word, err)
		}
		out = append(out, a)
	}
	return out
}

// rows reads rows of fractions, apart by semicolons.
func rows(t *testing.T, text string) [][]ratio.Ratio {
	t.Helper()
	var out [][]ratio.Ratio
	for part := range strings.SplitSeq(text, ";") {
		out = append(out, list(t, part))
	}
	return out
}

// written writes rows as rows reads them.
func written(l [][]ratio.Ratio) string {
	var out []string
	for _, row := range l {
		out = append(out, ratio.Words(row))
	}
	return strings.Join(out, ";")
}

// solved fails unless the answer is as wanted; "none", if there is to be none.
func solved(t *testing.T, l [][]ratio.Ratio, right []ratio.Ratio, want string) {
	t.Helper()
	x, ok := equations.Solve(l, right)
	if !ok && len(x) != 0 {
		t.Errorf("%s = %s: %s beside false", written(l), ratio.Words(right), ratio.Words(x))
	}
	got := ratio.Words(x)
	if !ok {
		got = "none"
	}
	if got != want {
		t.Errorf("%s = %s: %s, want %s", written(l), ratio.Words(right), got, want)
	}
}

func TestSolve(t *testing.T) {
	for _, c := range []struct{ rows, right, want string }{
		{"2", "3", "3/2"},
		{"-2", "3", "-3/2"},
		{"2", "0", "0"},
		{"1 0;0 1", "3 4", "3 4"},
		{"1 1;1 -1", "5 1", "3 2"},
		{"1 2;3 4", "5 6", "-4 9/2"},
		{"1 0 0;0 1 0;0 0 1", "1 2 3", "1 2 3"},
		{"2 1 1;1 3 2;1 0 0", "4 5 6", "6 15 -23"},
	} {
		solved(t, rows(t, c.rows), list(t, c.right), c.want)
	}
}

// Equations whose order has to be changed: at the first number, at one between,
// at all of them.
func TestSolveInAnotherOrder(t *testing.T) {
	for _, c := range []struct{ rows, right, want string }{
		{"0 1;1 0", "3 4", "4 3"},
		{"0 2;3 1", "2 7", "2 1"},
		{"0 0 1;0 1 0;1 0 0", "1 2 3", "3 2 1"},
		{"0 1 0;0 0 1;1 0 0", "1 2 3", "3 1 2"},
		{"1 1 1;1 1 2;1 2 1", "6 9 8", "1 2 3"},
		{"1 1 1;2 2 1;1 2 1", "6 9 8", "1 2 3"},
		{"1 2 3;0 0 1;0 1 5", "14 3 17", "1 2 3"},
		{"0 1 1 0;0 0 1 1;1 0 0 1;1 1 1 0", "1 2 3 4", "3 -1 2 0"},
	} {
		solved(t, rows(t, c.rows), list(t, c.right), c.want)
	}
}

// Several answers, or none at all.
func TestSolveNone(t *testing.T) {
	for _, c := range []struct{ rows, right string }{
		{"0", "0"},
		{"0", "1"},
		{"1 1;1 1", "2 2"},
		{"1 1;1 1", "2 3"},
		{"0 0;0 0", "0 0"},
		{"0 1;0 2", "1 2"},
		{"0 1;0 2", "1 1"},
		{"1 0;0 0", "1 0"},
		{"1 0;0 0", "1 1"},
		{"1 2 3;4 5 6;7 8 9", "1 2 3"},
		{"1 2 3;4 5 6;7 8 9", "1 2 4"},
		{"1 0 0;0 0 1;0 0 2", "1 1 2"},
		{"1/3 1/2;2/3 1", "1 2"},
	} {
		solved(t, rows(t, c.rows), list(t, c.right), "none")
	}
}

// Another form, and no equation at all.
func TestSolveForm(t *testing.T) {
	solved(t, nil, nil, "")
	for _, c := range []struct{ rows, right string }{
		{"1", ""},
		{"1", "1 1"},
		{"1 0;0 1", "1"},
		{"1 0;0 1", "1 1 1"},
		{"1 0;0", "1 1"},
		{"1;0 1", "1 1"},
		{"1 0 0;0 1", "1 1"},
		{"1 0;0 1 0", "1 1"},
		{"1 0", "1"},
		{"", "1"},
		{"1;1", "1 1"},
	} {
		solved(t, rows(t, c.rows), list(t, c.right), "none")
	}
	solved(t, nil, list(t, "1"), "none")
}

// determinant is the sum over all orders of the product of one number of each
// row, with a sign: another way than the one of Solve.
func determinant(l [][]*big.Rat) *big.Rat {
	if len(l) == 0 {
		return big.NewRat(1, 1)
	}
	out := new(big.Rat)
	for k, a := range l[0] {
		var less [][]*big.Rat
		for _, row := range l[1:] {
			less = append(less, slices.Delete(slices.Clone(row), k, k+1))
		}
		part := new(big.Rat).Mul(a, determinant(less))
		if k%2 == 1 {
			part.Neg(part)
		}
		out.Add(out, part)
	}
	return out
}

// byCramer is the answer by quotients of determinants.
func byCramer(l [][]*big.Rat, right []*big.Rat) string {
	all := determinant(l)
	if all.Sign() == 0 {
		return "none"
	}
	var out []string
	for k := range l {
		var changed [][]*big.Rat
		for i, row := range l {
			row = slices.Clone(row)
			row[k] = right[i]
			changed = append(changed, row)
		}
		out = append(out, new(big.Rat).Quo(determinant(changed), all).RatString())
	}
	return strings.Join(out, " ")
}

// Drawn numbers, many of them 0, against determinants by the library.
func TestSolveDrawn(t *testing.T) {
	r := rand.New(rand.NewSource(1))
	none := 0
	for n := range 6 {
		for range 150 {
			var l [][]ratio.Ratio
			var known [][]*big.Rat
			for range n + 1 { // the last one is right
				var row []ratio.Ratio
				var same []*big.Rat
				for range n {
					over, under := max(r.Intn(12)-6, -3), 1+r.Intn(3)
					a, err := ratio.Of(over, under)
					if err != nil {
						t.Fatal(err)
					}
					row, same = append(row, a), append(same, big.NewRat(int64(over), int64(under)))
				}
				l, known = append(l, row), append(known, same)
			}
			want := byCramer(known[:n], known[n])
			if want == "none" {
				none++
			}
			solved(t, l[:n], l[n], want)
		}
	}
	if none < 20 {
		t.Errorf("%d of the drawn ones have no answer: too few", none)
	}
}

// What is handed in stays as it is, and the answer shares nothing with it.
func TestSolveArgumentsStay(t *testing.T) {
	const text = "0 1 2;3 0 4;5 6 0"
	l, right := rows(t, text), list(t, "1 2 3 9")
	for range 2 {
		x, ok := equations.Solve(l, right[:3])
		if !ok {
			t.Fatal("no answer")
		}
		for i := range x[:cap(x)] {
			x[:cap(x)][i] = ratio.Whole(7)
		}
		if written(l) != text || ratio.Words(right) != "1 2 3 9" {
			t.Errorf("%s = %s", written(l), ratio.Words(right))
		}
	}
}
