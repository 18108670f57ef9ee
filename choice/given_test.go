package choice_test

import (
	"math/big"
	"math/rand"
	"slices"
	"strconv"
	"strings"
	"testing"

	"foresight/api"
	"foresight/choice"
	"foresight/ratio"
)

// tiny is the least fraction above 0 that Parse reads.
var tiny = "1/" + strings.Repeat("9", api.MaxDigits)

// one is the fraction of a text that must be one. A tilde is tiny.
func one(t *testing.T, text string) ratio.Ratio {
	t.Helper()
	a, err := ratio.Parse(strings.ReplaceAll(text, "~", tiny))
	if err != nil {
		t.Fatalf("Parse(%q): %v", text, err)
	}
	return a
}

// part is a fraction of two numbers.
func part(over, under int) ratio.Ratio {
	out, _ := ratio.Of(over, under)
	return out
}

// list reads fractions, apart by spaces.
func list(t *testing.T, text string) []ratio.Ratio {
	t.Helper()
	var out []ratio.Ratio
	for word := range strings.FieldsSeq(text) {
		out = append(out, one(t, word))
	}
	return out
}

// numbers reads whole numbers, apart by spaces.
func numbers(t *testing.T, text string) []int {
	t.Helper()
	var out []int
	for word := range strings.FieldsSeq(text) {
		n, err := strconv.Atoi(word)
		if err != nil {
			t.Fatal(err)
		}
		out = append(out, n)
	}
	return out
}

// model reads states, apart by semicolons, their acts by commas: what each
// brings, a colon, how likely each state comes next.
func model(t *testing.T, worth, states string) choice.Model {
	t.Helper()
	m := choice.Model{Worth: one(t, worth)}
	for state := range strings.SplitSeq(states, ";") {
		var acts []choice.Act
		for act := range strings.SplitSeq(state, ",") {
			gain, next, _ := strings.Cut(act, ":")
			acts = append(acts, choice.Act{Gain: one(t, strings.TrimSpace(gain)), Next: list(t, next)})
		}
		m.States = append(m.States, acts)
	}
	return m
}

// written writes the states of a model as model reads them.
func written(m choice.Model) string {
	var states []string
	for _, state := range m.States {
		var acts []string
		for _, a := range state {
			acts = append(acts, a.Gain.Text()+": "+ratio.Words(a.Next))
		}
		states = append(states, strings.Join(acts, ", "))
	}
	return strings.Join(states, "; ")
}

// sure is the Next of so many states by which one of them is certain.
func sure(states, state int) []ratio.Ratio {
	out := make([]ratio.Ratio, states)
	out[state] = ratio.Whole(1)
	return out
}

// ring is a model of so many states with so many acts each, from each state to
// the next one whatever is done: the last act of a state brings the most.
func ring(t *testing.T, states, acts int) choice.Model {
	t.Helper()
	m := choice.Model{Worth: one(t, "1/2")}
	for s := range states {
		var l []choice.Act
		for n := range acts {
			l = append(l, choice.Act{Gain: ratio.Whole(n), Next: sure(states, (s+1)%states)})
		}
		m.States = append(m.States, l)
	}
	return m
}

// like is so many like things.
func like[T any](n int, a T) []T {
	out := make([]T, n)
	for i := range out {
		out[i] = a
	}
	return out
}

// some is so many fractions around 0 that look drawn.
func some(die *rand.Rand, n int) []ratio.Ratio {
	out := make([]ratio.Ratio, n)
	for i := range out {
		out[i] = part(die.Intn(41)-20, 1+die.Intn(4))
	}
	return out
}

// shares is so many fractions that are 1 together and look drawn, many of them
// 0.
func shares(die *rand.Rand, n int) []ratio.Ratio {
	weights, all := make([]int, n), 0
	for i := range weights {
		weights[i] = max(0, die.Intn(8)-4)
		all += weights[i]
	}
	if all == 0 {
		weights[die.Intn(n)], all = 1, 1
	}
	out := make([]ratio.Ratio, n)
	for i, w := range weights {
		out[i] = part(w, all)
	}
	return out
}

// drawn is a model of so many states with at most so many acts each, that looks
// drawn. Its gains are few, so that acts are often alike.
func drawn(die *rand.Rand, states, most int) choice.Model {
	m := choice.Model{Worth: part(die.Intn(8), 8)}
	for range states {
		var acts []choice.Act
		for range 1 + die.Intn(most) {
			a := choice.Act{Gain: part(die.Intn(9)-4, 1+die.Intn(2)), Next: shares(die, states)}
			if len(acts) > 0 && die.Intn(4) == 0 {
				a = choice.Act{Gain: acts[0].Gain, Next: slices.Clone(acts[0].Next)}
			}
			acts = append(acts, a)
		}
		m.States = append(m.States, acts)
	}
	return m
}

// picked is the number of an act of each state, as if drawn.
func picked(die *rand.Rand, m choice.Model) []int {
	var out []int
	for _, acts := range m.States {
		out = append(out, die.Intn(len(acts)))
	}
	return out
}

// known is a fraction as the library has it.
func known(t *testing.T, a ratio.Ratio) *big.Rat {
	t.Helper()
	out, ok := new(big.Rat).SetString(a.Text())
	if !ok {
		t.Fatalf("no fraction: %q", a.Text())
	}
	return out
}

// allKnown is fractions as the library has them.
func allKnown(t *testing.T, l []ratio.Ratio) []*big.Rat {
	t.Helper()
	var out []*big.Rat
	for _, a := range l {
		out = append(out, known(t, a))
	}
	return out
}

// words is fractions of the library, as ratio tells them.
func words(l []*big.Rat) string {
	var out []string
	for _, a := range l {
		out = append(out, a.RatString())
	}
	return strings.Join(out, " ")
}

// worth is 13.1's worth of an act by v, by the library.
func worth(t *testing.T, m choice.Model, a choice.Act, v []*big.Rat) *big.Rat {
	t.Helper()
	mean := new(big.Rat)
	for k, share := range a.Next {
		mean.Add(mean, new(big.Rat).Mul(known(t, share), v[k]))
	}
	return mean.Add(mean.Mul(mean, known(t, m.Worth)), known(t, a.Gain))
}

// stepped is 13.2's Step by the library: what is the greatest is found first,
// then which one it is.
func stepped(t *testing.T, m choice.Model, v []*big.Rat) ([]*big.Rat, []int) {
	t.Helper()
	var ahead []*big.Rat
	var which []int
	for _, acts := range m.States {
		var worths []*big.Rat
		for _, a := range acts {
			worths = append(worths, worth(t, m, a, v))
		}
		most := slices.MaxFunc(worths, (*big.Rat).Cmp)
		ahead = append(ahead, most)
		which = append(which, slices.IndexFunc(worths, func(w *big.Rat) bool { return w.Cmp(most) == 0 }))
	}
	return ahead, which
}

// says fails unless an error is that Errno itself, as no place belongs to it.
func says(t *testing.T, err error, want api.Errno, what ...any) {
	t.Helper()
	if want == api.OK && err == nil {
		return
	}
	if err != error(want) {
		t.Errorf("%v: error %v, want %v", what, err, want)
	}
}

// are fails unless fractions are as wanted, with no error.
func are(t *testing.T, got []ratio.Ratio, err error, want string, what ...any) {
	t.Helper()
	if text := ratio.Words(got); err != nil || text != want {
		t.Errorf("%v: %.300q, error %v, want %.300q", what, text, err, want)
	}
}

// nothing fails unless an answer is an error's, with nothing beside it.
func nothing(t *testing.T, fractions []ratio.Ratio, acts []int, err error, want api.Errno, what ...any) {
	t.Helper()
	says(t, err, want, what...)
	if len(fractions) != 0 || len(acts) != 0 {
		t.Errorf("%v: %s and %v beside an error", what, ratio.Words(fractions), acts)
	}
}

// refused fails unless all functions say one thing of a model, whatever is
// wrong beside it that is told later.
func refused(t *testing.T, m choice.Model, want api.Errno, what ...any) {
	t.Helper()
	says(t, choice.Check(m), want, "Check", what)
	acts, v, err := choice.Best(m)
	nothing(t, v, acts, err, want, "Best", what)
	states := len(m.States)
	for _, n := range []int{states, 0, states + 1} {
		for _, act := range []int{0, -1, api.MaxStates} {
			v, err := choice.Value(m, like(n, act))
			nothing(t, v, nil, err, want, "Value", what, n, act)
			v, err = choice.Often(m, like(n, act))
			nothing(t, v, nil, err, want, "Often", what, n, act)
		}
		numbers := like(n, ratio.Whole(1))
		v, acts, err := choice.Step(m, numbers)
		nothing(t, v, acts, err, want, "Step", what, n)
		low, high, err := choice.Bounds(m, numbers)
		nothing(t, low, nil, err, want, "Bounds, low", what, n)
		nothing(t, high, nil, err, want, "Bounds, high", what, n)
		for _, times := range []int{0, 1, -1, 21} {
			v, err := choice.Last(m, times, numbers)
			nothing(t, v, nil, err, want, "Last", what, n, times)
		}
	}
}
