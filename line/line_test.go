package line_test

import (
	"math"
	"math/rand"
	"slices"
	"testing"

	"foresight/api"
	"foresight/line"
)

// heavy is the document's greatest weight.
const heavy = 10_000

// tasks is one for each three numbers: long, weight, due.
func tasks(numbers ...int) []line.Task {
	var out []line.Task
	for three := range slices.Chunk(numbers, 3) {
		out = append(out, line.Task{Long: three[0], Weight: three[1], Due: three[2]})
	}
	return out
}

// full is so many tasks that may be.
func full(n int) []line.Task { return slices.Repeat(tasks(2, 3, 4), n) }

// upTo is 0, 1, .. below n.
func upTo(n int) []int {
	out := make([]int, n)
	for i := range out {
		out[i] = i
	}
	return out
}

// says fails unless an error is that Errno itself, as no place belongs to it.
func says(t *testing.T, err error, want api.Errno, what ...any) {
	t.Helper()
	if want == api.OK && err == nil {
		return
	}
	if err != error(want) {
		t.Errorf("%v: error %v, want %v", what, err, want)
	}
}

// are fails unless a list is as wanted, with no error.
func are(t *testing.T, got []int, err error, want []int, what ...any) {
	t.Helper()
	if err != nil || !slices.Equal(got, want) {
		t.Errorf("%v: %v, error %v, want %v", what, got, err, want)
	}
}

// is fails unless a number is as wanted, with no error.
func is(t *testing.T, got int, err error, want int, what ...any) {
	t.Helper()
	are(t, []int{got}, err, []int{want}, what...)
}

// bare fails unless there is the wanted error, and beside it no list and 0.
func bare(t *testing.T, list []int, number int, err error, want api.Errno, what ...any) {
	t.Helper()
	says(t, err, want, what...)
	if list != nil || number != 0 {
		t.Errorf("%v: %v and %d beside an error", what, list, number)
	}
}

// refusedRow fails unless all that looks at tasks and a row answers an error.
func refusedRow(t *testing.T, l []line.Task, row []int, want api.Errno) {
	t.Helper()
	ends, err := line.Ends(l, row)
	bare(t, ends, 0, err, want, "Ends", l, row)
	n, err := line.Cost(l, row)
	bare(t, nil, n, err, want, "Cost", l, row)
	n, err = line.Late(l, row)
	bare(t, nil, n, err, want, "Late", l, row)
	n, err = line.Tardy(l, row)
	bare(t, nil, n, err, want, "Tardy", l, row)
}

// refused fails unless all that looks at tasks answers an error, also where
// more is wrong that is told later.
func refused(t *testing.T, l []line.Task, want api.Errno) {
	t.Helper()
	says(t, line.Check(l), want, "Check", l)
	for _, row := range [][]int{upTo(len(l)), nil, make([]int, len(l)), slices.Repeat([]int{-1}, len(l))} {
		refusedRow(t, l, row, want)
	}
	row, err := line.Smith(l)
	bare(t, row, 0, err, want, "Smith", l)
	row, err = line.Jackson(l)
	bare(t, row, 0, err, want, "Jackson", l)
	row, err = line.Moore(l)
	bare(t, row, 0, err, want, "Moore", l)
	round := make([][]int, len(l))
	for i := range round {
		round[i] = []int{i}
	}
	for _, ahead := range [][][]int{make([][]int, len(l)), nil, round, slices.Repeat([][]int{{-1}}, len(l))} {
		row, n, err := line.Lawler(l, ahead)
		bare(t, row, n, err, want, "Lawler", l, ahead)
	}
}

// allowed fails unless tasks may be.
func allowed(t *testing.T, l []line.Task) {
	t.Helper()
	says(t, line.Check(l), api.OK, "Check", l)
	_, err := line.Ends(l, upTo(len(l)))
	says(t, err, api.OK, "Ends", l)
	_, err = line.Smith(l)
	says(t, err, api.OK, "Smith", l)
	_, err = line.Jackson(l)
	says(t, err, api.OK, "Jackson", l)
	_, err = line.Moore(l)
	says(t, err, api.OK, "Moore", l)
	_, _, err = line.Lawler(l, make([][]int, len(l)))
	says(t, err, api.OK, "Lawler", l)
}

// TestHowMany: 9.1: up to MaxJobs, whatever they are.
func TestHowMany(t *testing.T) {
	for _, n := range []int{0, 1, api.MaxJobs - 1, api.MaxJobs} {
		allowed(t, full(n))
	}
	allowed(t, nil)
	for _, n := range []int{api.MaxJobs + 1, 1000} {
		refused(t, full(n), api.ErrLimit)
	}
	refused(t, append(tasks(-1, -1, -1), full(api.MaxJobs)...), api.ErrLimit)
	refused(t, append(full(api.MaxJobs), tasks(-1, -1, -1)...), api.ErrLimit)
}

// TestTaskEdges: 9.1: each number of a task up to its bounds, and beyond.
func TestTaskEdges(t *testing.T) {
	for _, one := range []line.Task{{}, {api.MaxTime, heavy, api.MaxTime}, {0, heavy, 0}, {api.MaxTime, 0, 0}, {0, 0, api.MaxTime}} {
		allowed(t, []line.Task{one})
	}
	for _, wrong := range []line.Task{
		{-1, 1, 1}, {math.MinInt, 1, 1}, {api.MaxTime + 1, 1, 1}, {math.MaxInt, 1, 1},
		{1, -1, 1}, {1, math.MinInt, 1}, {1, heavy + 1, 1}, {1, math.MaxInt, 1}, {1, api.MaxTime, 1},
		{1, 1, -1}, {1, 1, math.MinInt}, {1, 1, api.MaxTime + 1}, {1, 1, math.MaxInt},
		{-1, -1, -1}, {math.MinInt, math.MaxInt, math.MinInt},
	} {
		refused(t, []line.Task{wrong}, api.ErrRange)
		for _, at := range []int{0, 1, 2} {
			l := full(3)
			l[at] = wrong
			refused(t, l, api.ErrRange)
		}
		l := full(api.MaxJobs)
		l[api.MaxJobs-1] = wrong
		refused(t, l, api.ErrRange)
	}
}

// TestOrder: 9.1: each number once.
func TestOrder(t *testing.T) {
	for _, c := range []struct {
		row  []int
		n    int
		want api.Errno
	}{
		{nil, 0, api.OK},
		{[]int{}, 0, api.OK},
		{[]int{0}, 1, api.OK},
		{[]int{1, 0}, 2, api.OK},
		{[]int{2, 0, 1}, 3, api.OK},
		{nil, 1, api.ErrForm},
		{nil, -1, api.ErrForm},
		{nil, math.MinInt, api.ErrForm},
		{nil, math.MaxInt, api.ErrForm},
		{[]int{0}, 0, api.ErrForm},
		{[]int{0}, -1, api.ErrForm},
		{[]int{0, 1}, 3, api.ErrForm},
		{[]int{0, 1, 2}, 2, api.ErrForm},
		{[]int{1}, 1, api.ErrRange},
		{[]int{-1}, 1, api.ErrRange},
		{[]int{math.MaxInt}, 1, api.ErrRange},
		{[]int{math.MinInt}, 1, api.ErrRange},
		{[]int{0, 2}, 2, api.ErrRange},
		{[]int{0, -1}, 2, api.ErrRange},
		{[]int{0, 0}, 2, api.ErrMany},
		{[]int{1, 1}, 2, api.ErrMany},
		{[]int{0, 1, 0}, 3, api.ErrMany},
		{[]int{2, 1, 2}, 3, api.ErrMany},
		// How many there are is looked at first.
		{[]int{5, 5}, 3, api.ErrForm},
		{[]int{0, 0}, 3, api.ErrForm},
		{[]int{0, 0, -1}, 2, api.ErrForm},
		// Number by number: the first wrong one's error.
		{[]int{0, 0, 3}, 3, api.ErrMany},
		{[]int{0, 3, 0}, 3, api.ErrRange},
		{[]int{3, 0, 0}, 3, api.ErrRange},
		{[]int{1, 1, -1}, 3, api.ErrMany},
		{[]int{1, -1, 1}, 3, api.ErrRange},
		{[]int{3, 3, 3}, 3, api.ErrRange},
	} {
		says(t, line.Order(c.row, c.n), c.want, c.row, c.n)
		if c.n == max(0, min(c.n, api.MaxJobs)) && c.want != api.OK {
			refusedRow(t, full(c.n), c.row, c.want)
		}
	}
}

// TestOrderLong: Order bounds no length; one wrong number at any place is seen.
func TestOrderLong(t *testing.T) {
	const n = 5000
	row := rand.New(rand.NewSource(1)).Perm(n)
	says(t, line.Order(row, n), api.OK, "long")
	for _, at := range []int{0, 1, n / 2, n - 1} {
		was := row[at]
		row[at] = n
		says(t, line.Order(row, n), api.ErrRange, at)
		row[at] = row[(at+1)%n]
		says(t, line.Order(row, n), api.ErrMany, at)
		row[at] = was
	}
}

// TestOrderAll: of all rows of three numbers from -1 to 3 the six that may be.
func TestOrderAll(t *testing.T) {
	may := 0
	for a := -1; a <= 3; a++ {
		for b := -1; b <= 3; b++ {
			for c := -1; c <= 3; c++ {
				row := []int{a, b, c}
				if line.Order(row, 3) == nil {
					may++
					if slices.Sort(row); !slices.Equal(row, []int{0, 1, 2}) {
						t.Errorf("%d %d %d may not be", a, b, c)
					}
				}
			}
		}
	}
	if may != 6 {
		t.Errorf("%d rows may be", may)
	}
}

// TestDone: 9.2 by hand.
func TestDone(t *testing.T) {
	for _, c := range []struct {
		l                 []line.Task
		row, ends         []int
		cost, late, tardy int
	}{
		{nil, nil, nil, 0, 0, 0},
		{[]line.Task{}, []int{}, nil, 0, 0, 0},
		{tasks(0, 0, 0), []int{0}, []int{0}, 0, 0, 0},
		{tasks(5, 2, 5), []int{0}, []int{5}, 10, 0, 0},
		{tasks(5, 2, 4), []int{0}, []int{5}, 10, 1, 1},
		{tasks(5, 2, 6), []int{0}, []int{5}, 10, -1, 0},
		// All are early: the latest is below 0.
		{tasks(1, 1, 10, 1, 1, 20), []int{0, 1}, []int{1, 2}, 3, -9, 0},
		{tasks(1, 1, 10, 1, 1, 20), []int{1, 0}, []int{2, 1}, 3, -8, 0},
		{tasks(1, 1, 20, 1, 1, 10), []int{0, 1}, []int{1, 2}, 3, -8, 0},
		// Ends are told by number, not by place.
		{tasks(3, 1, 4, 2, 5, 2, 4, 2, 5), []int{2, 0, 1}, []int{7, 9, 4}, 60, 7, 2},
		{tasks(3, 1, 4, 2, 5, 2, 4, 2, 5), []int{1, 2, 0}, []int{9, 2, 6}, 31, 5, 2},
		{tasks(3, 1, 4, 2, 5, 2, 4, 2, 5), []int{1, 0, 2}, []int{5, 2, 9}, 33, 4, 2},
		// What takes no time ends where it stands.
		{tasks(0, 1, 0, 4, 1, 4, 0, 1, 3), []int{0, 1, 2}, []int{0, 4, 4}, 8, 1, 1},
	} {
		ends, err := line.Ends(c.l, c.row)
		are(t, ends, err, c.ends, "Ends", c.l, c.row)
		n, err := line.Cost(c.l, c.row)
		is(t, n, err, c.cost, "Cost", c.l, c.row)
		n, err = line.Late(c.l, c.row)
		is(t, n, err, c.late, "Late", c.l, c.row)
		n, err = line.Tardy(c.l, c.row)
		is(t, n, err, c.tardy, "Tardy", c.l, c.row)
	}
}

// TestMost: the most that can be, exactly.
func TestMost(t *testing.T) {
	const n = api.MaxJobs
	l := slices.Repeat(tasks(api.MaxTime, heavy, 0), n)
	row := upTo(n)
	slices.Reverse(row)
	ends, err := line.Ends(l, row)
	for i, end := range ends {
		is(t, end, err, (n-i)*api.MaxTime, i)
	}
	cost, err := line.Cost(l, row)
	is(t, cost, err, heavy*api.MaxTime*n*(n+1)/2, "Cost")
	late, err := line.Late(l, row)
	is(t, late, err, n*api.MaxTime, "Late")
	tardy, err := line.Tardy(l, row)
	is(t, tardy, err, n, "Tardy")
	got, most, err := line.Lawler(l, make([][]int, n))
	are(t, got, err, upTo(n), "Lawler")
	is(t, most, err, heavy*api.MaxTime*n, "Lawler's cost")
	got, err = line.Smith(l)
	are(t, got, err, upTo(n), "Smith")
	got, err = line.Moore(l)
	are(t, got, err, upTo(n), "Moore")
	late, err = line.Late(slices.Repeat(tasks(0, 0, api.MaxTime), n), row)
	is(t, late, err, -api.MaxTime, "Late, all early")
}

// drawn is up to so many tasks that look drawn, the same each time.
func drawn(die *rand.Rand, most int) []line.Task {
	long, weight, due := 1+die.Intn(7), 1+die.Intn(6), 1+die.Intn(25)
	l := make([]line.Task, die.Intn(most+1))
	for i := range l {
		l[i] = line.Task{Long: die.Intn(long), Weight: die.Intn(weight), Due: die.Intn(due)}
	}
	return l
}

// orders calls what is given with each row of n numbers.
func orders(n int, each func(row []int)) {
	row := upTo(n)
	var from func(at int)
	from = func(at int) {
		if at == n {
			each(row)
			return
		}
		for i := at; i < n; i++ {
			row[at], row[i] = row[i], row[at]
			from(at + 1)
			row[at], row[i] = row[i], row[at]
		}
	}
	from(0)
}

// number is what a function of the face that must have no error answers.
func number(t *testing.T, of func([]line.Task, []int) (int, error), l []line.Task, row []int) int {
	t.Helper()
	n, err := of(l, row)
	if err != nil {
		t.Errorf("%v %v: %v", l, row, err)
	}
	return n
}

// TestDoneDrawn: 9.2 by its words, for each task from those that stand up to
// it in the row.
func TestDoneDrawn(t *testing.T) {
	die := rand.New(rand.NewSource(2))
	for range 1000 {
		l := drawn(die, api.MaxJobs)
		row := die.Perm(len(l))
		want := make([]int, len(l))
		cost, late, tardy := 0, math.MinInt, 0
		for i := range l {
			for _, k := range row[:slices.Index(row, i)+1] {
				want[i] += l[k].Long
			}
			cost += want[i] * l[i].Weight
			late = max(late, want[i]-l[i].Due)
			if want[i] > l[i].Due {
				tardy++
			}
		}
		if len(l) == 0 {
			late = 0
		}
		ends, err := line.Ends(l, row)
		are(t, ends, err, want, "Ends", l, row)
		is(t, number(t, line.Cost, l, row), nil, cost, "Cost", l, row)
		is(t, number(t, line.Late, l, row), nil, late, "Late", l, row)
		is(t, number(t, line.Tardy, l, row), nil, tardy, "Tardy", l, row)
	}
}

// TestSmith: 9.3 by hand.
func TestSmith(t *testing.T) {
	for _, c := range []struct {
		l    []line.Task
		want []int
	}{
		{nil, nil},
		{tasks(3, 0, 0), []int{0}},
		{tasks(2, 1, 0, 1, 1, 0), []int{1, 0}},
		{tasks(1, 1, 0, 1, 2, 0), []int{1, 0}},
		{tasks(4, 3, 0, 3, 2, 0, 2, 3, 0), []int{2, 0, 1}},
		// Like ones, also where the numbers differ.
		{tasks(2, 4, 0, 1, 2, 0, 3, 6, 0), []int{0, 1, 2}},
		{tasks(3, 6, 9, 1, 2, 5, 2, 4, 1), []int{0, 1, 2}},
		{tasks(2, 4, 0, 1, 3, 0, 3, 6, 0), []int{1, 0, 2}},
		// What takes no time stands first, whatever it weighs, by number.
		{tasks(1, heavy, 0, 0, 0, 0), []int{1, 0}},
		{tasks(1, heavy, 0, 0, 0, 0, 0, 5, 0), []int{1, 2, 0}},
		{tasks(1, 0, 0, 0, 0, 0, 2, 0, 0, 0, 1, 0), []int{1, 3, 0, 2}},
		{tasks(0, 0, 0, 0, 9, 0, 0, 4, 0), []int{0, 1, 2}},
		// A weight of 0 stands last, by number, however long.
		{tasks(9, 0, 0, 1, 0, 0, api.MaxTime, 1, 0), []int{2, 0, 1}},
		// Near ones are told apart.
		{tasks(api.MaxTime, heavy-1, 0, api.MaxTime, heavy, 0), []int{1, 0}},
		{tasks(api.MaxTime, heavy, 0, api.MaxTime-1, heavy, 0), []int{1, 0}},
		{tasks(api.MaxTime, heavy, 0, api.MaxTime/heavy, 1, 0, 1, 0, 0), []int{0, 1, 2}},
	} {
		got, err := line.Smith(c.l)
		are(t, got, err, c.want, c.l)
	}
}

// goesAhead is whether task i stands ahead of k by Smith's words.
func goesAhead(l []line.Task, i, k int) bool {
	a, b := l[i], l[k]
	if (a.Long == 0) != (b.Long == 0) {
		return a.Long == 0
	}
	if one, other := a.Weight*b.Long, b.Weight*a.Long; a.Long > 0 && one != other {
		return one > other
	}
	return i < k
}

// TestSmithDrawn: each task stands, by the words, ahead of all behind it.
func TestSmithDrawn(t *testing.T) {
	die := rand.New(rand.NewSource(3))
	for range 1000 {
		l := drawn(die, api.MaxJobs)
		row, err := line.Smith(l)
		says(t, err, api.OK, l)
		says(t, line.Order(row, len(l)), api.OK, l, row)
		for at, i := range row {
			for _, k := range row[at+1:] {
				if !goesAhead(l, i, k) {
					t.Errorf("%v: %v: %d ahead of %d", l, row, i, k)
				}
			}
		}
	}
}

// TestJackson: 9.3 by hand.
func TestJackson(t *testing.T) {
	for _, c := range []struct {
		l    []line.Task
		want []int
	}{
		{nil, nil},
		{tasks(1, 1, 7), []int{0}},
		{tasks(1, 1, 7, 1, 1, 6), []int{1, 0}},
		{tasks(1, 1, 6, 1, 1, 7), []int{0, 1}},
		// Neither how long nor how heavy makes a difference.
		{tasks(9, 1, 5, 1, 9, 5, 0, 0, 5), []int{0, 1, 2}},
		{tasks(9, 1, 5, 1, 9, 4, 0, 0, 5, 2, 2, 4), []int{1, 3, 0, 2}},
		{tasks(1, 1, api.MaxTime, 1, 1, 0, 1, 1, api.MaxTime-1), []int{1, 2, 0}},
	} {
		got, err := line.Jackson(c.l)
		are(t, got, err, c.want, c.l)
	}
}

// byDue is the numbers of tasks by Due, of like ones by number, found one by
// one.
func byDue(l []line.Task) []int {
	var out []int
	for range l {
		next := -1
		for i := range l {
			if !slices.Contains(out, i) && (next < 0 || l[i].Due < l[next].Due) {
				next = i
			}
		}
		out = append(out, next)
	}
	return out
}

// TestJacksonDrawn: against looking for the next one, one by one.
func TestJacksonDrawn(t *testing.T) {
	die := rand.New(rand.NewSource(4))
	for range 500 {
		l := drawn(die, api.MaxJobs)
		got, err := line.Jackson(l)
		are(t, got, err, byDue(l), l)
	}
}

// TestMoore: 9.4 by hand.
func TestMoore(t *testing.T) {
	for _, c := range []struct {
		l    []line.Task
		want []int
	}{
		{nil, nil},
		{tasks(3, 1, 3), []int{0}},
		{tasks(4, 1, 3), []int{0}},
		{tasks(0, 0, 0, 0, 0, 0), []int{0, 1}},
		// None is late: Jackson's order.
		{tasks(1, 1, 9, 1, 1, 2, 1, 1, 5), []int{1, 2, 0}},
		{tasks(2, 1, 2, 2, 1, 4, 2, 1, 6), []int{0, 1, 2}},
		// The longest goes, not the one that is late.
		{tasks(5, 1, 6, 2, 1, 6, 3, 1, 8), []int{1, 2, 0}},
		// It is the late one itself, if that is the longest.
		{tasks(2, 1, 3, 9, 1, 4, 2, 1, 5), []int{0, 2, 1}},
		// Of like ones the one that stands first in the row: here 1, by its due.
		{tasks(3, 1, 5, 3, 1, 4), []int{0, 1}},
		{tasks(3, 1, 4, 3, 1, 5), []int{1, 0}},
		{tasks(2, 1, 4, 3, 1, 6, 3, 1, 7), []int{0, 2, 1}},
		// Behind the row they stand as they were taken out: the longer one first.
		{tasks(3, 1, 3, 5, 1, 7, 2, 1, 7, 3, 1, 7), []int{2, 3, 1, 0}},
		{tasks(2, 1, 2, 4, 1, 5, 1, 1, 5, 3, 1, 5), []int{0, 2, 1, 3}},
		// All but those that take no time are late.
		{tasks(4, 1, 0, 0, 1, 0, 3, 1, 0), []int{1, 0, 2}},
		// Weights make no difference.
		{tasks(5, heavy, 6, 2, 0, 6, 3, 0, 8), []int{1, 2, 0}},
	} {
		got, err := line.Moore(c.l)
		are(t, got, err, c.want, c.l)
	}
}

// moore is the row of 9.4, by its words, each end reckoned anew.
func moore(l []line.Task) []int {
	var row, out []int
	for _, i := range byDue(l) {
		row = append(row, i)
		end, long := 0, 0
		for _, k := range row {
			end += l[k].Long
			long = max(long, l[k].Long)
		}
		if end > l[i].Due {
			first := slices.IndexFunc(row, func(k int) bool { return l[k].Long == long })
			out = append(out, row[first])
			row = slices.Concat(row[:first], row[first+1:])
		}
	}
	return slices.Concat(row, out)
}

// TestMooreDrawn: against the words, with few tasks and with many.
func TestMooreDrawn(t *testing.T) {
	die := rand.New(rand.NewSource(5))
	for range 3000 {
		l := drawn(die, 10)
		got, err := line.Moore(l)
		are(t, got, err, moore(l), l)
		l = drawn(die, api.MaxJobs)
		for i := range l {
			l[i].Due *= 1 + die.Intn(8)
		}
		got, err = line.Moore(l)
		are(t, got, err, moore(l), l)
	}
}

// TestNoOrderIsBetter: of all orders none costs less than Smith's, none's
// latest is less late than Jackson's, in none are fewer late than in Moore's.
func TestNoOrderIsBetter(t *testing.T) {
	die := rand.New(rand.NewSource(6))
	for range 400 {
		l := drawn(die, 6)
		smith, err := line.Smith(l)
		says(t, err, api.OK, l)
		jackson, err := line.Jackson(l)
		says(t, err, api.OK, l)
		moore, err := line.Moore(l)
		says(t, err, api.OK, l)
		cost, late, tardy := math.MaxInt, math.MaxInt, math.MaxInt
		orders(len(l), func(row []int) {
			cost = min(cost, number(t, line.Cost, l, row))
			late = min(late, number(t, line.Late, l, row))
			tardy = min(tardy, number(t, line.Tardy, l, row))
		})
		is(t, number(t, line.Cost, l, smith), nil, cost, "Smith", l)
		is(t, number(t, line.Late, l, jackson), nil, late, "Jackson", l)
		is(t, number(t, line.Tardy, l, moore), nil, tardy, "Moore", l)
	}
}

// TestLawler: 9.5 by hand.
func TestLawler(t *testing.T) {
	for _, c := range []struct {
		l     []line.Task
		ahead [][]int
		row   []int
		cost  int
	}{
		{nil, nil, nil, 0},
		{[]line.Task{}, [][]int{}, nil, 0},
		{tasks(4, 3, 2), [][]int{nil}, []int{0}, 6},
		{tasks(4, 3, 9), [][]int{nil}, []int{0}, 0},
		// The one that costs the least stands last.
		{tasks(2, 5, 0, 2, 1, 0), [][]int{nil, nil}, []int{0, 1}, 10},
		{tasks(2, 1, 0, 2, 5, 0), [][]int{nil, nil}, []int{1, 0}, 10},
		// Unless it must be ahead of the other one.
		{tasks(2, 5, 0, 2, 1, 0), [][]int{{1}, nil}, []int{1, 0}, 20},
		{tasks(2, 1, 0, 2, 5, 0), [][]int{nil, {0}}, []int{0, 1}, 20},
		// Of like ones the greatest number stands last: they stand by number.
		{tasks(2, 3, 9, 2, 3, 9, 2, 3, 9), [][]int{nil, nil, nil}, []int{0, 1, 2}, 0},
		// What is early costs 0, not less: so these are like, too.
		{tasks(1, 1, 50, 1, 9, 5, 1, 2, 4), [][]int{nil, nil, nil}, []int{0, 1, 2}, 0},
		// Due at the end there is not late.
		{tasks(1, 9, 3, 1, 9, 2, 1, 9, 1), [][]int{nil, nil, nil}, []int{2, 1, 0}, 0},
		// The greatest cost isn't that of the last place.
		{tasks(3, 4, 1, 3, 1, 5), [][]int{nil, nil}, []int{0, 1}, 8},
		// A chain, and told several times over.
		{tasks(1, 1, 0, 1, 1, 0, 1, 1, 0), [][]int{{1, 1}, {2, 2, 2}, nil}, []int{2, 1, 0}, 3},
		{tasks(1, 1, 0, 1, 1, 0, 1, 1, 0), [][]int{{1, 2, 1}, {2}, {}}, []int{2, 1, 0}, 3},
		// Who is ahead of two is free when both are placed.
		{tasks(1, 0, 0, 1, 7, 0, 1, 8, 0), [][]int{nil, {0}, {0}}, []int{0, 2, 1}, 21},
	} {
		row, cost, err := line.Lawler(c.l, c.ahead)
		are(t, row, err, c.row, "row", c.l, c.ahead)
		is(t, cost, err, c.cost, "cost", c.l, c.ahead)
	}
}

// TestLawlerWrong: 9.5: how many rows, their numbers, and going round.
func TestLawlerWrong(t *testing.T) {
	for _, c := range []struct {
		n     int
		ahead [][]int
		want  api.Errno
	}{
		{0, [][]int{nil}, api.ErrForm},
		{1, nil, api.ErrForm},
		{2, [][]int{nil}, api.ErrForm},
		{2, [][]int{nil, nil, nil}, api.ErrForm},
		// How many is looked at first.
		{2, [][]int{{7}}, api.ErrForm},
		{2, [][]int{{1}, {0}, nil}, api.ErrForm},
		{2, [][]int{{2}, nil}, api.ErrRange},
		{2, [][]int{nil, {2}}, api.ErrRange},
		{2, [][]int{nil, {0, -1}}, api.ErrRange},
		{2, [][]int{{1, 1, math.MaxInt}, nil}, api.ErrRange},
		{2, [][]int{{math.MinInt}, nil}, api.ErrRange},
		// Numbers are looked at ahead of going round.
		{2, [][]int{{1}, {0, 2}}, api.ErrRange},
		{3, [][]int{{0}, {1}, {3}}, api.ErrRange},
		{2, [][]int{{1}, {0}}, api.ErrOrder},
		{3, [][]int{{1}, {2}, {0}}, api.ErrOrder},
		// Some can be placed, then none.
		{3, [][]int{{1}, {0}, nil}, api.ErrOrder},
		{4, [][]int{{1}, {0}, {1}, {2}}, api.ErrOrder},
		{4, [][]int{nil, {0, 2}, {1}, {2}}, api.ErrOrder},
		// A task ahead of itself goes round, too.
		{1, [][]int{{0}}, api.ErrOrder},
		{3, [][]int{nil, {1}, nil}, api.ErrOrder},
		{3, [][]int{nil, {0}, {2, 2}}, api.ErrOrder},
	} {
		row, cost, err := line.Lawler(full(c.n), c.ahead)
		bare(t, row, cost, err, c.want, c.n, c.ahead)
	}
}

// TestLawlerAtEveryPlace: one wrong number in one of many rows is seen.
func TestLawlerAtEveryPlace(t *testing.T) {
	const n = api.MaxJobs
	for at := range n {
		for _, wrong := range []int{-1, n} {
			ahead := make([][]int, n)
			ahead[at] = []int{(at + 1) % n, wrong}
			row, cost, err := line.Lawler(full(n), ahead)
			bare(t, row, cost, err, api.ErrRange, at, wrong)
		}
	}
}

// someAhead is rows of what must be ahead, told of an order that looks drawn:
// so that they don't go round.
func someAhead(die *rand.Rand, n int) [][]int {
	ahead := make([][]int, n)
	row := die.Perm(n)
	often := 1 + die.Intn(6)
	for k := range n {
		for i := range k {
			if die.Intn(often) == 0 {
				ahead[row[k]] = append(ahead[row[k]], row[i])
			}
		}
		if m := len(ahead[row[k]]); m > 0 && die.Intn(4) == 0 {
			ahead[row[k]] = append(ahead[row[k]], ahead[row[k]][die.Intn(m)])
		}
	}
	return ahead
}

// price is what a task costs that ends at a time.
func price(one line.Task, end int) int { return one.Weight * max(0, end-one.Due) }

// lawler is the row of 9.5, and the greatest cost, by its words; false, if
// there is none.
func lawler(l []line.Task, ahead [][]int) ([]int, int, bool) {
	var row []int // from the last place on
	greatest := 0
	for range l {
		end, best := 0, -1
		for i := range l {
			if !slices.Contains(row, i) {
				end += l[i].Long
			}
		}
		for i := len(l) - 1; i >= 0; i-- {
			free := !slices.Contains(row, i)
			for k := range l {
				free = free && (slices.Contains(row, k) || !slices.Contains(ahead[k], i))
			}
			if free && (best < 0 || price(l[i], end) < price(l[best], end)) {
				best = i
			}
		}
		if best < 0 {
			return nil, 0, false
		}
		row = append(row, best)
		greatest = max(greatest, price(l[best], end))
	}
	slices.Reverse(row)
	return row, greatest, true
}

// asTold fails unless Lawler answers what the words ask.
func asTold(t *testing.T, l []line.Task, ahead [][]int) {
	t.Helper()
	row, cost, err := line.Lawler(l, ahead)
	want, greatest, ok := lawler(l, ahead)
	if !ok {
		bare(t, row, cost, err, api.ErrOrder, l, ahead)
		return
	}
	are(t, row, err, want, l, ahead)
	is(t, cost, err, greatest, l, ahead)
}

// TestLawlerDrawn: against the words, with few tasks and with many, also
// where they may go round.
func TestLawlerDrawn(t *testing.T) {
	die := rand.New(rand.NewSource(7))
	for range 2000 {
		l := drawn(die, 8)
		asTold(t, l, someAhead(die, len(l)))
		ahead := make([][]int, len(l))
		for i := range ahead {
			for range die.Intn(3) {
				ahead[i] = append(ahead[i], die.Intn(len(l)))
			}
		}
		asTold(t, l, ahead)
	}
	for range 30 {
		l := drawn(die, api.MaxJobs)
		asTold(t, l, someAhead(die, len(l)))
	}
}

// fits is whether each task stands behind those that must be ahead of it.
func fits(row []int, ahead [][]int) bool {
	for at, i := range row {
		for _, k := range row[at:] {
			if slices.Contains(ahead[i], k) {
				return false
			}
		}
	}
	return true
}

// worst is the greatest cost of a row.
func worst(t *testing.T, l []line.Task, row []int) int {
	t.Helper()
	ends, err := line.Ends(l, row)
	says(t, err, api.OK, l, row)
	out := 0
	for i, end := range ends {
		out = max(out, price(l[i], end))
	}
	return out
}

// TestLawlerBest: the row keeps to what must be ahead, and its greatest cost,
// which is the one that is told, is the least of all rows that do.
func TestLawlerBest(t *testing.T) {
	die := rand.New(rand.NewSource(8))
	for range 400 {
		l := drawn(die, 6)
		ahead := someAhead(die, len(l))
		row, cost, err := line.Lawler(l, ahead)
		says(t, err, api.OK, l, ahead)
		if !fits(row, ahead) {
			t.Errorf("%v %v: %v", l, ahead, row)
		}
		is(t, cost, nil, worst(t, l, row), "its own", l, ahead)
		least := math.MaxInt
		orders(len(l), func(row []int) {
			if fits(row, ahead) {
				least = min(least, worst(t, l, row))
			}
		})
		is(t, cost, nil, least, "the least", l, ahead)
	}
}

// TestAheadLong: rows may tell one thing very often.
func TestAheadLong(t *testing.T) {
	often := slices.Repeat([]int{1}, 1_000_000)
	row, cost, err := line.Lawler(tasks(1, 1, 0, 1, 1, 0), [][]int{often, nil})
	are(t, row, err, []int{1, 0}, "row")
	is(t, cost, err, 2, "cost")
}

// answers is all that the face tells of tasks, a row, and what must be ahead.
func answers(l []line.Task, row []int, ahead [][]int) (lists [][]int, numbers []int) {
	keep := func(list []int, err error) { lists = append(lists, list) }
	count := func(n int, err error) { numbers = append(numbers, n) }
	keep(line.Ends(l, row))
	keep(line.Smith(l))
	keep(line.Jackson(l))
	keep(line.Moore(l))
	list, n, err := line.Lawler(l, ahead)
	keep(list, err)
	count(n, err)
	count(line.Cost(l, row))
	count(line.Late(l, row))
	count(line.Tardy(l, row))
	return lists, numbers
}

// deep is a copy of rows.
func deep(l [][]int) [][]int {
	out := make([][]int, len(l))
	for i := range l {
		out[i] = slices.Clone(l[i])
	}
	return out
}

// TestHandedInStays: P4: nothing that is handed in is written into, nor what
// stands behind a list's length.
func TestHandedInStays(t *testing.T) {
	die := rand.New(rand.NewSource(9))
	for range 100 {
		l := append(drawn(die, 20), full(3)...)
		row := append(die.Perm(len(l)-3), 91, 92, 93)
		rows := append(someAhead(die, len(l)-3), []int{94}, []int{95}, nil)
		for i := range rows {
			rows[i] = append(rows[i], 96, 97)
		}
		tasksWere, rowWas, rowsWere := slices.Clone(l), slices.Clone(row), deep(rows)
		handed := slices.Clone(rows)[:len(l)-3]
		for i := range handed {
			handed[i] = handed[i][:len(handed[i])-2]
		}
		answers(l[:len(l)-3], row[:len(row)-3], handed)
		_ = line.Check(l[:len(l)-3])
		_ = line.Order(row[:len(row)-3], len(row)-3)
		if !slices.Equal(l, tasksWere) || !slices.Equal(row, rowWas) || !slices.EqualFunc(rows, rowsWere, slices.Equal) {
			t.Errorf("%v %v %v were written into", tasksWere, rowWas, rowsWere)
		}
	}
}

// TestAnswersAreFresh: P4: what comes out is the caller's, whole room and all;
// asked again, the same comes, though the first answers were spoiled.
func TestAnswersAreFresh(t *testing.T) {
	die := rand.New(rand.NewSource(10))
	for range 100 {
		l := drawn(die, 20)
		row := die.Perm(len(l))
		ahead := someAhead(die, len(l))
		first, numbers := answers(l, row, ahead)
		want := deep(first)
		for at, list := range first {
			list = list[:cap(list)]
			for i := range list {
				list[i] = -7
			}
			for next := at + 1; next < len(first); next++ {
				are(t, first[next], nil, want[next], "another one's memory", l)
			}
		}
		again, same := answers(l, row, ahead)
		if !slices.EqualFunc(again, want, slices.Equal) || !slices.Equal(same, numbers) {
			t.Errorf("%v %v %v: %v %v, then %v %v", l, row, ahead, want, numbers, again, same)
		}
	}
}

// TestAnswersDontHang: an answer does not change with what was handed in.
func TestAnswersDontHang(t *testing.T) {
	l := tasks(3, 1, 4, 2, 5, 2, 4, 2, 5)
	row := []int{2, 0, 1}
	ahead := [][]int{{2}, nil, {1}}
	lists, _ := answers(l, row, ahead)
	want := deep(lists)
	clear(l)
	clear(row)
	clear(ahead[0])
	clear(ahead)
	if !slices.EqualFunc(lists, want, slices.Equal) {
		t.Errorf("%v, then %v", want, lists)
	}
}
