package shop_test

import (
	"math"
	"math/rand"
	"slices"
	"testing"

	"foresight/api"
	"foresight/shop"
)

// twos is one for each two numbers.
func twos(numbers ...int) []shop.Two {
	var out []shop.Two
	for two := range slices.Chunk(numbers, 2) {
		out = append(out, shop.Two{A: two[0], B: two[1]})
	}
	return out
}

// parts is one for each four numbers: machine, job, from, to.
func parts(numbers ...int) []shop.Part {
	var out []shop.Part
	for four := range slices.Chunk(numbers, 4) {
		out = append(out, shop.Part{Machine: four[0], Job: four[1], From: four[2], To: four[3]})
	}
	return out
}

// upTo is 0, 1, .. below n.
func upTo(n int) []int {
	out := make([]int, n)
	for i := range out {
		out[i] = i
	}
	return out
}

// alike is one number so often.
func alike(number, n int) []int { return slices.Repeat([]int{number}, n) }

// says fails unless an error is that Errno itself, as no place belongs to it.
func says(t *testing.T, err error, want api.Errno, what ...any) {
	t.Helper()
	if want == api.OK && err == nil {
		return
	}
	if err != error(want) {
		t.Errorf("%v: error %v, want %v", what, err, want)
	}
}

// are fails unless a list is as wanted, with no error.
func are[T comparable](t *testing.T, got []T, err error, want []T, what ...any) {
	t.Helper()
	if err != nil || !slices.Equal(got, want) {
		t.Errorf("%v: %v, error %v, want %v", what, got, err, want)
	}
}

// is fails unless a number is as wanted, with no error.
func is(t *testing.T, got int, err error, want int, what ...any) {
	t.Helper()
	are(t, []int{got}, err, []int{want}, what...)
}

// bare fails unless there is the wanted error, and beside it no list and 0.
func bare[T any](t *testing.T, number int, list []T, err error, want api.Errno, what ...any) {
	t.Helper()
	says(t, err, want, what...)
	if list != nil || number != 0 {
		t.Errorf("%v: %d and %v beside an error", what, number, list)
	}
}

// orders calls what is given with each row of n numbers.
func orders(n int, each func(row []int)) {
	row := upTo(n)
	var from func(at int)
	from = func(at int) {
		if at == n {
			each(row)
			return
		}
		for i := at; i < n; i++ {
			row[at], row[i] = row[i], row[at]
			from(at + 1)
			row[at], row[i] = row[i], row[at]
		}
	}
	from(0)
}

// wrongRows is rows that are none of n (3 or more), and what Order (9.1) says of them.
func wrongRows(n int) map[api.Errno][][]int {
	twice := append(upTo(n-1), 0)
	below, above := upTo(n), upTo(n)
	below[n-1], above[0] = -1, n
	return map[api.Errno][][]int{
		api.ErrForm:  {nil, upTo(n - 1), upTo(n + 1), alike(-1, n+1)},
		api.ErrRange: {below, above, alike(math.MaxInt, n), alike(math.MinInt, n)},
		api.ErrMany:  {twice, alike(n-1, n), append(alike(0, n-1), n)},
	}
}

// refusedTwo fails unless Flow and Johnson answer an error, also where more is
// wrong that is told later.
func refusedTwo(t *testing.T, l []shop.Two, want api.Errno) {
	t.Helper()
	for _, row := range [][]int{upTo(len(l)), nil, alike(0, len(l)), alike(-1, len(l))} {
		end, err := shop.Flow(l, row)
		bare[int](t, end, nil, err, want, "Flow", l, row)
	}
	row, err := shop.Johnson(l)
	bare(t, 0, row, err, want, "Johnson", l)
}

// TestTwoMany: 10.1: up to MaxJobs, whatever they are.
func TestTwoMany(t *testing.T) {
	for _, n := range []int{0, 1, api.MaxJobs - 1, api.MaxJobs} {
		l := slices.Repeat(twos(2, 3), n)
		row, err := shop.Johnson(l)
		are(t, row, err, upTo(n), "Johnson", n)
		end, err := shop.Flow(l, row)
		is(t, end, err, min(n, 1)*2+n*3, "Flow", n)
	}
	for _, n := range []int{api.MaxJobs + 1, 1000} {
		refusedTwo(t, slices.Repeat(twos(2, 3), n), api.ErrLimit)
		refusedTwo(t, slices.Repeat(twos(-1, 3), n), api.ErrLimit)
	}
}

// TestTwoEdges: 10.1: both numbers up to their bounds, and beyond.
func TestTwoEdges(t *testing.T) {
	for _, one := range twos(0, 0, 0, api.MaxTime, api.MaxTime, 0, api.MaxTime, api.MaxTime) {
		end, err := shop.Flow([]shop.Two{one}, []int{0})
		is(t, end, err, one.A+one.B, "Flow", one)
		row, err := shop.Johnson([]shop.Two{one})
		are(t, row, err, []int{0}, "Johnson", one)
	}
	for _, wrong := range twos(-1, 1, 1, -1, api.MaxTime+1, 1, 1, api.MaxTime+1, -1, -1,
		math.MinInt, 1, 1, math.MinInt, math.MaxInt, 1, 1, math.MaxInt, math.MinInt, math.MaxInt) {
		refusedTwo(t, []shop.Two{wrong}, api.ErrRange)
		for at := range api.MaxJobs {
			l := slices.Repeat(twos(2, 3), api.MaxJobs)
			l[at] = wrong
			refusedTwo(t, l, api.ErrRange)
		}
	}
}

// TestFlowRow: 10.1: what Order says of the row.
func TestFlowRow(t *testing.T) {
	for n := 3; n < 7; n++ {
		for want, rows := range wrongRows(n) {
			for _, row := range rows {
				end, err := shop.Flow(slices.Repeat(twos(2, 3), n), row)
				bare[int](t, end, nil, err, want, n, row)
			}
		}
	}
	end, err := shop.Flow(nil, []int{0})
	bare[int](t, end, nil, err, api.ErrForm, "no jobs")
}

// TestFlow: 10.1 by hand.
func TestFlow(t *testing.T) {
	for _, c := range []struct {
		l    []shop.Two
		row  []int
		want int
	}{
		{nil, nil, 0},
		{[]shop.Two{}, []int{}, 0},
		{twos(0, 0), []int{0}, 0},
		{twos(3, 4), []int{0}, 7},
		// The second machine waits for the first one, or the first for nobody.
		{twos(3, 4, 2, 5), []int{0, 1}, 12},
		{twos(3, 4, 2, 5), []int{1, 0}, 11},
		{twos(1, 1, 10, 2), []int{0, 1}, 13},
		{twos(1, 1, 10, 2), []int{1, 0}, 13},
		// What takes no time on the second machine is done where it leaves the first.
		{twos(5, 1, 9, 0), []int{0, 1}, 14},
		{twos(5, 1, 9, 0), []int{1, 0}, 15},
		// What takes no time on the first one still waits for its turn there.
		{twos(5, 1, 0, 6), []int{0, 1}, 12},
		{twos(5, 1, 0, 6), []int{1, 0}, 7},
	} {
		got, err := shop.Flow(c.l, c.row)
		is(t, got, err, c.want, c.l, c.row)
	}
}

// TestFlowMost: the most that can be, exactly.
func TestFlowMost(t *testing.T) {
	l := slices.Repeat(twos(api.MaxTime, api.MaxTime), api.MaxJobs)
	end, err := shop.Flow(l, upTo(api.MaxJobs))
	is(t, end, err, (api.MaxJobs+1)*api.MaxTime, "Flow")
}

// flow is when all is done by the words of 10.1: the longest of all ways that
// change once from the first machine to the second.
func flow(l []shop.Two, row []int) int {
	longest := 0
	for change := range row {
		way := 0
		for at, i := range row {
			if at <= change {
				way += l[i].A
			}
			if at >= change {
				way += l[i].B
			}
		}
		longest = max(longest, way)
	}
	return longest
}

// someTwos is up to so many that look drawn, the same each time.
func someTwos(die *rand.Rand, most int) []shop.Two {
	a, b := 1+die.Intn(8), 1+die.Intn(8)
	l := make([]shop.Two, die.Intn(most+1))
	for i := range l {
		l[i] = shop.Two{A: die.Intn(a), B: die.Intn(b)}
	}
	return l
}

// TestFlowDrawn: against the longest way.
func TestFlowDrawn(t *testing.T) {
	die := rand.New(rand.NewSource(1))
	for range 2000 {
		l := someTwos(die, api.MaxJobs)
		row := die.Perm(len(l))
		got, err := shop.Flow(l, row)
		is(t, got, err, flow(l, row), l, row)
	}
}

// TestJohnson: 10.1 by hand.
func TestJohnson(t *testing.T) {
	for _, c := range []struct {
		l    []shop.Two
		want []int
	}{
		{nil, nil},
		{twos(3, 3), []int{0}},
		{twos(3, 2), []int{0}},
		{twos(5, 2, 1, 6, 9, 7, 3, 8, 10, 4), []int{1, 3, 2, 4, 0}},
		// Of those that are early A alone counts, of the others B alone.
		{twos(2, 9, 2, 3, 1, 1), []int{2, 0, 1}},
		{twos(9, 2, 3, 2, 5, 4), []int{2, 0, 1}},
		// A as long as B is early.
		{twos(2, 1, 9, 9), []int{1, 0}},
		{twos(9, 9, 2, 1), []int{0, 1}},
		{twos(1, 0, 0, 0), []int{1, 0}},
		// Like ones by number, in both.
		{twos(4, 1, 2, 5, 6, 1, 2, 7, 5, 1, 2, 2), []int{1, 3, 5, 0, 2, 4}},
		{slices.Repeat(twos(7, 7), 20), upTo(20)},
		{slices.Repeat(twos(7, 6), 20), upTo(20)},
	} {
		got, err := shop.Johnson(c.l)
		are(t, got, err, c.want, c.l)
	}
}

// johnson is the row of 10.1, by its words.
func johnson(l []shop.Two) []int {
	var row []int
	for a := 0; a <= 10; a++ {
		for i, two := range l {
			if two.A <= two.B && two.A == a {
				row = append(row, i)
			}
		}
	}
	for b := 10; b >= 0; b-- {
		for i, two := range l {
			if two.A > two.B && two.B == b {
				row = append(row, i)
			}
		}
	}
	return row
}

// TestJohnsonDrawn: against the words, with few and with many.
func TestJohnsonDrawn(t *testing.T) {
	die := rand.New(rand.NewSource(2))
	for range 3000 {
		l := someTwos(die, api.MaxJobs)
		got, err := shop.Johnson(l)
		are(t, got, err, johnson(l), l)
	}
}

// TestJohnsonBest: in no order is all done sooner.
func TestJohnsonBest(t *testing.T) {
	die := rand.New(rand.NewSource(3))
	for range 500 {
		l := someTwos(die, 6)
		row, err := shop.Johnson(l)
		says(t, err, api.OK, l)
		end, err := shop.Flow(l, row)
		least := math.MaxInt
		orders(len(l), func(row []int) { least = min(least, flow(l, row)) })
		is(t, end, err, least, l)
	}
}

// refusedLengths fails unless all that looks at lengths and machines answers an
// error, also where more is wrong that is told later.
func refusedLengths(t *testing.T, l []int, machines int, want api.Errno) {
	t.Helper()
	end, out, err := shop.McNaughton(l, machines)
	bare(t, end, out, err, want, "McNaughton", l, machines)
	for _, row := range [][]int{upTo(len(l)), nil, alike(0, len(l)), alike(-1, len(l))} {
		end, out, err = shop.List(l, machines, row)
		bare(t, end, out, err, want, "List", l, machines, row)
	}
}

// TestHowMany: 10.2: machines from 1 to MaxMany, up to MaxJobs jobs, whatever
// they are.
func TestHowMany(t *testing.T) {
	for _, n := range []int{0, 1, api.MaxJobs - 1, api.MaxJobs} {
		for _, machines := range []int{1, 2, api.MaxMany - 1, api.MaxMany} {
			end, _, err := shop.McNaughton(alike(1, n), machines)
			is(t, end, err, (n+machines-1)/machines, "McNaughton", n, machines)
			end, _, err = shop.List(alike(1, n), machines, upTo(n))
			is(t, end, err, (n+machines-1)/machines, "List", n, machines)
		}
		row, err := shop.Longest(alike(1, n))
		are(t, row, err, upTo(n), "Longest", n)
	}
	for _, machines := range []int{0, -1, api.MaxMany + 1, math.MaxInt, math.MinInt} {
		for _, n := range []int{0, 1, 5, api.MaxJobs, api.MaxJobs + 1} {
			refusedLengths(t, alike(1, n), machines, api.ErrLimit)
			refusedLengths(t, alike(-1, n), machines, api.ErrLimit)
		}
	}
	for _, n := range []int{api.MaxJobs + 1, 1000} {
		for _, long := range []int{1, -1, api.MaxTime + 1} {
			refusedLengths(t, alike(long, n), 3, api.ErrLimit)
			row, err := shop.Longest(alike(long, n))
			bare(t, 0, row, err, api.ErrLimit, "Longest", long, n)
		}
	}
}

// TestLengths: 10.2: each length from 0 to MaxTime.
func TestLengths(t *testing.T) {
	for _, long := range []int{0, 1, api.MaxTime} {
		end, _, err := shop.McNaughton([]int{long}, 2)
		is(t, end, err, long, "McNaughton", long)
		end, _, err = shop.List([]int{long}, 2, []int{0})
		is(t, end, err, long, "List", long)
		row, err := shop.Longest([]int{long})
		are(t, row, err, []int{0}, "Longest", long)
	}
	for _, wrong := range []int{-1, math.MinInt, api.MaxTime + 1, math.MaxInt} {
		for at := range api.MaxJobs {
			l := alike(2, api.MaxJobs)
			l[at] = wrong
			refusedLengths(t, l, 3, api.ErrRange)
			row, err := shop.Longest(l)
			bare(t, 0, row, err, api.ErrRange, "Longest", at, wrong)
		}
	}
}

// TestMcNaughton: 10.2 by hand.
func TestMcNaughton(t *testing.T) {
	for _, c := range []struct {
		l        []int
		machines int
		end      int
		want     []shop.Part
	}{
		{nil, 1, 0, nil},
		{[]int{}, 20, 0, nil},
		{[]int{0, 0}, 2, 0, nil},
		{[]int{5}, 1, 5, parts(0, 0, 0, 5)},
		{[]int{5}, 3, 5, parts(0, 0, 0, 5)},
		{[]int{2, 3}, 1, 5, parts(0, 0, 0, 2, 0, 1, 2, 5)},
		// What does not fit goes on at 0 of the next one.
		{[]int{4, 4, 4}, 2, 6, parts(0, 0, 0, 4, 0, 1, 4, 6, 1, 1, 0, 2, 1, 2, 2, 6)},
		// Rounded up: the last machine is not full.
		{[]int{3, 3, 1}, 2, 4, parts(0, 0, 0, 3, 0, 1, 3, 4, 1, 1, 0, 2, 1, 2, 2, 3)},
		{[]int{1, 1, 1}, 2, 2, parts(0, 0, 0, 1, 0, 1, 1, 2, 1, 2, 0, 1)},
		// The longest is the end, and may be broken itself.
		{[]int{1, 5, 2}, 2, 5, parts(0, 0, 0, 1, 0, 1, 1, 5, 1, 1, 0, 1, 1, 2, 1, 3)},
		{[]int{9, 1, 1}, 3, 9, parts(0, 0, 0, 9, 1, 1, 0, 1, 1, 2, 1, 2)},
		// A machine that is full to the end breaks nothing.
		{[]int{2, 2, 4}, 2, 4, parts(0, 0, 0, 2, 0, 1, 2, 4, 1, 2, 0, 4)},
		{[]int{3, 3, 3}, 3, 3, parts(0, 0, 0, 3, 1, 1, 0, 3, 2, 2, 0, 3)},
		// Nothing of a length 0, also where a machine is full.
		{[]int{0, 3, 0, 3, 0}, 2, 3, parts(0, 1, 0, 3, 1, 3, 0, 3)},
	} {
		end, got, err := shop.McNaughton(c.l, c.machines)
		is(t, end, err, c.end, "end", c.l, c.machines)
		are(t, got, err, c.want, c.l, c.machines)
	}
}

// someLengths is up to so many that look drawn, the same each time.
func someLengths(die *rand.Rand, most int) []int {
	long := 1 + die.Intn(12)
	l := make([]int, die.Intn(most+1))
	for i := range l {
		l[i] = die.Intn(long)
	}
	return l
}

// most is the greatest of lengths and of a number.
func most(l []int, n int) int { return slices.Max(append(slices.Clone(l), n)) }

// mcNaughton is the end and the parts of 10.2, unit by unit of the work.
func mcNaughton(l []int, machines int) (int, []shop.Part) {
	var units []int // whose each unit is, machine by machine
	for job, long := range l {
		units = append(units, alike(job, long)...)
	}
	end := most(l, 0)
	for end*machines < len(units) {
		end++
	}
	var out []shop.Part
	for at, job := range units {
		machine, now := at/end, at%end
		if n := len(out); n > 0 && out[n-1].Job == job && out[n-1].Machine == machine {
			out[n-1].To++
			continue
		}
		out = append(out, shop.Part{Machine: machine, Job: job, From: now, To: now + 1})
	}
	return end, out
}

// TestMcNaughtonDrawn: against the words, unit by unit.
func TestMcNaughtonDrawn(t *testing.T) {
	die := rand.New(rand.NewSource(4))
	for range 3000 {
		l := someLengths(die, api.MaxJobs)
		machines := 1 + die.Intn(api.MaxMany)
		end, got, err := shop.McNaughton(l, machines)
		wantEnd, want := mcNaughton(l, machines)
		is(t, end, err, wantEnd, "end", l, machines)
		are(t, got, err, want, l, machines)
	}
}

// possible fails unless parts do all of jobs from 0 to the end, no machine two
// of them at once, no job at two machines at once.
func possible(t *testing.T, l []int, machines, end int, list []shop.Part) {
	t.Helper()
	done := make([]int, len(l))
	for i, p := range list {
		done[p.Job] += p.To - p.From
		if p.Machine < 0 || p.Machine >= machines || p.From < 0 || p.From > p.To || p.To > end {
			t.Errorf("%v %d: %v of %v", l, machines, p, list)
		}
		for _, q := range list[:i] {
			if (p.Machine == q.Machine || p.Job == q.Job) && max(p.From, q.From) < min(p.To, q.To) {
				t.Errorf("%v %d: %v and %v at once", l, machines, p, q)
			}
		}
	}
	are(t, done, nil, l, "done", machines, list)
}

// TestPlans: the plans of McNaughton and of List can be done, and List's end is
// by whatever row within 2 - 1/m of McNaughton's, which none is ahead of.
func TestPlans(t *testing.T) {
	die := rand.New(rand.NewSource(5))
	for range 1000 {
		l := someLengths(die, api.MaxJobs)
		machines := 1 + die.Intn(api.MaxMany)
		end, list, err := shop.McNaughton(l, machines)
		says(t, err, api.OK, l, machines)
		possible(t, l, machines, end, list)
		later, list, err := shop.List(l, machines, die.Perm(len(l)))
		says(t, err, api.OK, l, machines)
		possible(t, l, machines, later, list)
		if later < end || later*machines > (2*machines-1)*end {
			t.Errorf("%v %d: List %d, McNaughton %d", l, machines, later, end)
		}
	}
}

// TestMost: the most that can be, exactly.
func TestMost(t *testing.T) {
	const n = api.MaxJobs
	l := alike(api.MaxTime, n)
	for _, machines := range []int{1, 7, api.MaxMany} {
		end, list, err := shop.McNaughton(l, machines)
		is(t, end, err, (n*api.MaxTime+machines-1)/machines, "McNaughton", machines)
		possible(t, l, machines, end, list)
		end, list, err = shop.List(l, machines, upTo(n))
		is(t, end, err, (n+machines-1)/machines*api.MaxTime, "List", machines)
		possible(t, l, machines, end, list)
	}
}

// TestListRow: 10.2: what Order says of the row.
func TestListRow(t *testing.T) {
	for n := 3; n < 7; n++ {
		for want, rows := range wrongRows(n) {
			for _, row := range rows {
				end, list, err := shop.List(alike(2, n), 2, row)
				bare(t, end, list, err, want, n, row)
			}
		}
	}
	end, list, err := shop.List(nil, 2, []int{0})
	bare(t, end, list, err, api.ErrForm, "no jobs")
}

// TestList: 10.2 by hand.
func TestList(t *testing.T) {
	for _, c := range []struct {
		l        []int
		machines int
		row      []int
		end      int
		want     []shop.Part
	}{
		{nil, 1, nil, 0, nil},
		{[]int{}, 20, []int{}, 0, nil},
		{[]int{5}, 3, []int{0}, 5, parts(0, 0, 0, 5)},
		{[]int{2, 3}, 1, []int{1, 0}, 5, parts(0, 1, 0, 3, 0, 0, 3, 5)},
		// The parts stand in the row's order; of machines that are free alike the least number.
		{[]int{1, 2, 3}, 3, []int{2, 0, 1}, 3, parts(0, 2, 0, 3, 1, 0, 0, 1, 2, 1, 0, 2)},
		{[]int{2, 2, 2, 2, 2}, 2, []int{4, 3, 2, 1, 0}, 6, parts(0, 4, 0, 2, 1, 3, 0, 2, 0, 2, 2, 4, 1, 1, 2, 4, 0, 0, 4, 6)},
		{[]int{3, 1, 2, 1}, 2, []int{0, 1, 2, 3}, 4, parts(0, 0, 0, 3, 1, 1, 0, 1, 1, 2, 1, 3, 0, 3, 3, 4)},
		// The longest last.
		{[]int{1, 1, 2}, 2, []int{0, 1, 2}, 3, parts(0, 0, 0, 1, 1, 1, 0, 1, 0, 2, 1, 3)},
		{[]int{1, 1, 2}, 2, []int{2, 0, 1}, 2, parts(0, 2, 0, 2, 1, 0, 0, 1, 1, 1, 1, 2)},
		// When all is done need not be the last part's end.
		{[]int{9, 1}, 2, []int{0, 1}, 9, parts(0, 0, 0, 9, 1, 1, 0, 1)},
		// What takes no time has its part, too, and leaves its machine free.
		{[]int{0, 0, 4, 0}, 2, []int{0, 1, 2, 3}, 4, parts(0, 0, 0, 0, 0, 1, 0, 0, 0, 2, 0, 4, 1, 3, 0, 0)},
	} {
		end, got, err := shop.List(c.l, c.machines, c.row)
		is(t, end, err, c.end, "end", c.l, c.machines, c.row)
		are(t, got, err, c.want, c.l, c.machines, c.row)
	}
}

// list is the end and the parts of 10.2, by its words.
func list(l []int, machines int, row []int) (int, []shop.Part) {
	free := make([]int, machines)
	var out []shop.Part
	for _, job := range row {
		at := slices.Index(free, slices.Min(free))
		out = append(out, shop.Part{Machine: at, Job: job, From: free[at], To: free[at] + l[job]})
		free[at] += l[job]
	}
	return slices.Max(free), out
}

// TestListDrawn: against the words, with few machines and with many.
func TestListDrawn(t *testing.T) {
	die := rand.New(rand.NewSource(6))
	for range 3000 {
		l := someLengths(die, api.MaxJobs)
		machines := 1 + die.Intn(api.MaxMany)
		row := die.Perm(len(l))
		end, got, err := shop.List(l, machines, row)
		wantEnd, want := list(l, machines, row)
		is(t, end, err, wantEnd, "end", l, machines, row)
		are(t, got, err, want, l, machines, row)
	}
}

// TestLongest: 10.2: by length, falling, of like ones by number.
func TestLongest(t *testing.T) {
	for _, c := range []struct{ l, want []int }{
		{nil, nil},
		{[]int{7}, []int{0}},
		{[]int{1, 3, 2}, []int{1, 2, 0}},
		{[]int{2, 3, 2, 3, 0, 0}, []int{1, 3, 0, 2, 4, 5}},
		{[]int{0, api.MaxTime, 0, api.MaxTime}, []int{1, 3, 0, 2}},
		{alike(4, 30), upTo(30)},
	} {
		got, err := shop.Longest(c.l)
		are(t, got, err, c.want, c.l)
	}
	die := rand.New(rand.NewSource(7))
	for range 1000 {
		l := someLengths(die, api.MaxJobs)
		var want []int
		for long := most(l, 0); long >= 0; long-- {
			for i := range l {
				if l[i] == long {
					want = append(want, i)
				}
			}
		}
		got, err := shop.Longest(l)
		are(t, got, err, want, l)
	}
}

// TestHuWrong: 10.3: how many, then their numbers, then going round.
func TestHuWrong(t *testing.T) {
	for _, machines := range []int{0, -1, api.MaxMany + 1, math.MaxInt, math.MinInt} {
		for _, next := range [][]int{nil, {-1}, {-2}, {0}, {7, 7}, alike(0, api.MaxJobs+1)} {
			times, err := shop.Hu(next, machines)
			bare(t, 0, times, err, api.ErrLimit, next, machines)
		}
	}
	for _, n := range []int{api.MaxJobs + 1, 1000} {
		for _, one := range []int{-1, -2, 0, n} {
			times, err := shop.Hu(alike(one, n), 2)
			bare(t, 0, times, err, api.ErrLimit, n, one)
		}
	}
	for _, c := range []struct {
		next []int
		want api.Errno
	}{
		{[]int{-2}, api.ErrRange},
		{[]int{1}, api.ErrRange},
		{[]int{math.MinInt}, api.ErrRange},
		{[]int{math.MaxInt}, api.ErrRange},
		{[]int{-1, 2}, api.ErrRange},
		{[]int{-1, 0, -2}, api.ErrRange},
		// Numbers are looked at ahead of going round, wherever they stand.
		{[]int{0, 2}, api.ErrRange},
		{[]int{1, 0, 3}, api.ErrRange},
		{[]int{-2, 2, 1}, api.ErrRange},
		{[]int{0}, api.ErrOrder},
		{[]int{1, 0}, api.ErrOrder},
		{[]int{1, 2, 0}, api.ErrOrder},
		{[]int{-1, 1}, api.ErrOrder},
		{[]int{-1, 2, 1, 0}, api.ErrOrder},
		// One leads into what goes round.
		{[]int{1, 2, 1}, api.ErrOrder},
		{[]int{-1, 3, 1, 2, 1, 0}, api.ErrOrder},
	} {
		for _, machines := range []int{1, api.MaxMany} {
			times, err := shop.Hu(c.next, machines)
			bare(t, 0, times, err, c.want, c.next, machines)
		}
	}
}

// TestHuAtEveryPlace: one wrong number among the most there may be is seen, and
// so is a way round of all of them.
func TestHuAtEveryPlace(t *testing.T) {
	const n = api.MaxJobs
	for at := range n {
		for _, wrong := range []int{-2, n} {
			next := alike(-1, n)
			next[at] = wrong
			times, err := shop.Hu(next, 2)
			bare(t, 0, times, err, api.ErrRange, at, wrong)
		}
		next := upTo(n)
		for i := range next {
			next[i] = (i + 1) % n
		}
		times, err := shop.Hu(next, 2)
		bare(t, 0, times, err, api.ErrOrder, "round")
		next[at] = -1
		times, err = shop.Hu(next, 2)
		want := make([]int, n)
		for i := range want {
			want[i] = (i - at - 1 + n) % n
		}
		are(t, times, err, want, "one way of all", at)
	}
}

// TestHu: 10.3 by hand.
func TestHu(t *testing.T) {
	for _, c := range []struct {
		next     []int
		machines int
		want     []int
	}{
		{nil, 1, nil},
		{[]int{}, 20, nil},
		{[]int{-1}, 1, []int{0}},
		{[]int{-1, -1, -1}, 1, []int{0, 1, 2}},
		{[]int{-1, -1, -1}, 2, []int{0, 0, 1}},
		{[]int{-1, -1, -1}, 3, []int{0, 0, 0}},
		// One after the other, however many machines there are.
		{[]int{-1, 0, 1}, 20, []int{2, 1, 0}},
		{[]int{1, 2, -1}, 20, []int{0, 1, 2}},
		// The farthest from its end first, whatever its number.
		{[]int{-1, -1, 3, -1}, 1, []int{1, 2, 0, 3}},
		{[]int{-1, -1, 3, 4, -1}, 2, []int{0, 1, 0, 1, 2}},
		// What was set free at a time goes at the next one, not at that one.
		{[]int{-1, 0}, 2, []int{1, 0}},
		{[]int{3, 3, 3, -1}, 2, []int{0, 0, 1, 2}},
		{[]int{-1, 0, 0, 0}, 2, []int{2, 0, 0, 1}},
		// All that must be ahead of one, not one of them alone.
		{[]int{4, 4, 4, 5, 5, -1}, 2, []int{0, 0, 1, 1, 2, 3}},
		{[]int{5, 5, 5, 5, 5, -1, -1}, 4, []int{0, 0, 0, 0, 1, 2, 1}},
	} {
		got, err := shop.Hu(c.next, c.machines)
		are(t, got, err, c.want, c.next, c.machines)
	}
}

// forest is up to so many numbers of next that look drawn and don't go round,
// the same each time, in any order of their numbers.
func forest(die *rand.Rand, most int) []int {
	next := make([]int, die.Intn(most+1))
	row := die.Perm(len(next))
	deep := 1 + die.Intn(6)
	for at, i := range row {
		next[i] = -1
		if at > 0 && die.Intn(deep) > 0 {
			next[i] = row[max(0, at-1-die.Intn(deep))]
		}
	}
	return next
}

// level is how many tasks there are from one on.
func level(next []int, i int) int {
	if i < 0 {
		return 0
	}
	return 1 + level(next, next[i])
}

// hu is at what time each is done, by the words of 10.3.
func hu(next []int, machines int) []int {
	times := alike(-1, len(next))
	for now := 0; slices.Contains(times, -1); now++ {
		for range machines {
			best := -1
			for i := range next {
				ready := times[i] < 0
				for k := range next {
					ready = ready && (next[k] != i || times[k] >= 0 && times[k] < now)
				}
				if ready && (best < 0 || level(next, i) > level(next, best)) {
					best = i
				}
			}
			if best >= 0 {
				times[best] = now
			}
		}
	}
	return times
}

// TestHuDrawn: against the words, with few tasks and with many.
func TestHuDrawn(t *testing.T) {
	die := rand.New(rand.NewSource(8))
	for range 1000 {
		for _, most := range []int{8, 25} {
			next := forest(die, most)
			machines := 1 + die.Intn(5)
			got, err := shop.Hu(next, machines)
			are(t, got, err, hu(next, machines), next, machines)
		}
	}
	for range 50 {
		next := forest(die, api.MaxJobs)
		machines := 1 + die.Intn(api.MaxMany)
		got, err := shop.Hu(next, machines)
		are(t, got, err, hu(next, machines), next, machines)
	}
}

// TestHuAny: any numbers of next that may be, also where they go round: an
// error just then.
func TestHuAny(t *testing.T) {
	for code := range 5 * 5 * 5 * 5 {
		next := []int{code%5 - 1, code/5%5 - 1, code/25%5 - 1, code/125 - 1}
		round := false
		for i := range next {
			at := i
			for range 5 {
				if at >= 0 {
					at = next[at]
				}
			}
			round = round || at >= 0
		}
		for machines := 1; machines < 4; machines++ {
			got, err := shop.Hu(next, machines)
			if round {
				bare(t, 0, got, err, api.ErrOrder, next, machines)
				continue
			}
			are(t, got, err, hu(next, machines), next, machines)
		}
	}
}

// soonest is in how many units of time all can be done at the best: set by set
// of what is done.
func soonest(next []int, machines int) int {
	all := 1<<len(next) - 1
	now := map[int]int{0: 0}
	for units := 0; ; units++ {
		if _, ok := now[all]; ok {
			return units
		}
		then := map[int]int{}
		for done := range now {
			ready := all &^ done
			for i, n := range next {
				if n >= 0 && done>>i&1 == 0 {
					ready &^= 1 << n
				}
			}
			for set := ready; set > 0; set = (set - 1) & ready {
				if ones(set) <= machines {
					then[done|set] = units
				}
			}
		}
		now = then
	}
}

// ones is how many a set has.
func ones(set int) int {
	n := 0
	for ; set > 0; set &= set - 1 {
		n++
	}
	return n
}

// TestHuBest: in no order is all done sooner.
func TestHuBest(t *testing.T) {
	die := rand.New(rand.NewSource(9))
	for range 500 {
		next := forest(die, 8)
		machines := 1 + die.Intn(4)
		times, err := shop.Hu(next, machines)
		is(t, most(times, -1)+1, err, soonest(next, machines), next, machines)
	}
}

// answers is all that the face tells.
func answers(l []shop.Two, lengths, next, twoRow, row []int, machines int) (rows [][]int, plans [][]shop.Part, numbers []int) {
	keep := func(list []int, err error) { rows = append(rows, list) }
	plan := func(n int, list []shop.Part, err error) {
		numbers = append(numbers, n)
		plans = append(plans, list)
	}
	keep(shop.Johnson(l))
	keep(shop.Longest(lengths))
	keep(shop.Hu(next, machines))
	plan(shop.McNaughton(lengths, machines))
	plan(shop.List(lengths, machines, row))
	end, _ := shop.Flow(l, twoRow)
	return rows, plans, append(numbers, end)
}

// deep is a copy of lists.
func deep[T any](l [][]T) [][]T {
	out := make([][]T, len(l))
	for i := range l {
		out[i] = slices.Clone(l[i])
	}
	return out
}

// alikeAll says whether lists are alike.
func alikeAll[T comparable](a, b [][]T) bool { return slices.EqualFunc(a, b, slices.Equal) }

// TestHandedInStays: P4: nothing that is handed in is written into, nor what
// stands behind a list's length.
func TestHandedInStays(t *testing.T) {
	die := rand.New(rand.NewSource(10))
	for range 200 {
		l := append(someTwos(die, 20), twos(91, 92, 93, 94)...)
		lengths := append(someLengths(die, 20), 95, 96)
		next := append(forest(die, 20), 97, 98)
		twoRow := append(die.Perm(len(l)-2), 81, 82)
		row := append(die.Perm(len(lengths)-2), 83, 84)
		was, lists := slices.Clone(l), [][]int{lengths, next, twoRow, row}
		were := deep(lists)
		answers(l[:len(l)-2], lengths[:len(lengths)-2], next[:len(next)-2], twoRow[:len(twoRow)-2], row[:len(row)-2], 3)
		if !slices.Equal(l, was) || !alikeAll(lists, were) {
			t.Errorf("%v %v were written into", was, were)
		}
	}
}

// spoil writes into all of a list, its whole room and all.
func spoil[T any](list []T, bad T) {
	list = list[:cap(list)]
	for i := range list {
		list[i] = bad
	}
}

// TestAnswersAreFresh: P4: what comes out is the caller's; asked again, the same
// comes, though the first answers and what was handed in were spoiled.
func TestAnswersAreFresh(t *testing.T) {
	die := rand.New(rand.NewSource(11))
	for range 200 {
		l, lengths, next := someTwos(die, 20), someLengths(die, 20), forest(die, 20)
		twoRow, row := die.Perm(len(l)), die.Perm(len(lengths))
		machines := 1 + die.Intn(4)
		gone, lists := slices.Clone(l), deep([][]int{lengths, next, twoRow, row})
		rows, plans, numbers := answers(gone, lists[0], lists[1], lists[2], lists[3], machines)
		wantRows, wantPlans := deep(rows), deep(plans)
		clear(gone)
		for _, list := range lists {
			spoil(list, -5)
		}
		for at := range rows {
			if !alikeAll(rows[at:], wantRows[at:]) || !alikeAll(plans, wantPlans) {
				t.Errorf("%v %v %v: an answer hangs on other memory", l, lengths, next)
			}
			spoil(rows[at], -7)
		}
		for at := range plans {
			if !alikeAll(plans[at:], wantPlans[at:]) {
				t.Errorf("%v %v %v: a plan hangs on other memory", l, lengths, next)
			}
			spoil(plans[at], shop.Part{Machine: -7})
		}
		rows, plans, again := answers(l, lengths, next, twoRow, row, machines)
		if !alikeAll(rows, wantRows) || !alikeAll(plans, wantPlans) || !slices.Equal(again, numbers) {
			t.Errorf("%v %v %v: asked again, something else comes", l, lengths, next)
		}
	}
}
