package path_test

import (
	"fmt"
	"math"
	"math/rand"
	"slices"
	"testing"

	"foresight/api"
	"foresight/path"
)

// far is the document's last time of a piece that counts.
const far = 100 * api.MaxTime

// rules is all of them, in the document's order.
func rules() []int {
	return []int{path.First, path.Last, path.Short, path.Class, path.Ahead, path.Shortest}
}

// jobs is one for each three numbers.
func jobs(numbers ...int) []path.Job {
	var out []path.Job
	for three := range slices.Chunk(numbers, 3) {
		out = append(out, path.Job{At: three[0], Size: three[1], Class: three[2]})
	}
	return out
}

// pieces is one for each three numbers.
func pieces(numbers ...int) []path.Piece {
	var out []path.Piece
	for three := range slices.Chunk(numbers, 3) {
		out = append(out, path.Piece{Job: three[0], From: three[1], To: three[2]})
	}
	return out
}

// drawn is a few jobs that look drawn, the same each time.
func drawn(die *rand.Rand) []path.Job {
	l := make([]path.Job, die.Intn(8))
	gap, size, class := 1+die.Intn(6), 1+die.Intn(6), 1+die.Intn(4)
	at := die.Intn(4)
	for i := range l {
		l[i] = path.Job{At: at, Size: 1 + die.Intn(size), Class: die.Intn(class)}
		at += die.Intn(gap)
	}
	return l
}

// says fails unless an error is that Errno itself, as no place belongs to it.
func says(t *testing.T, err error, want api.Errno, what ...any) {
	t.Helper()
	if want == api.OK && err == nil {
		return
	}
	if err != error(want) {
		t.Errorf("%v: error %v, want %v", what, err, want)
	}
}

// are fails unless a list is as wanted, with no error.
func are[T comparable](t *testing.T, got []T, err error, want []T, what ...any) {
	t.Helper()
	if err != nil || !slices.Equal(got, want) {
		t.Errorf("%v: %v, error %v, want %v", what, got, err, want)
	}
}

// refused fails unless there is no list beside the wanted error.
func refused[T any](t *testing.T, got []T, err error, want api.Errno, what ...any) {
	t.Helper()
	says(t, err, want, what...)
	if got != nil {
		t.Errorf("%v: %v beside an error", what, got)
	}
}

// full is so many jobs that may be.
func full(n int) []path.Job {
	return slices.Repeat(jobs(5, 1, 0), n)
}

// wrong is jobs that may not be, or may be just so, and why.
type wrong struct {
	l    []path.Job
	want api.Errno
}

// wrongs is the edges that the document names, and several errors at once.
func wrongs() []wrong {
	return []wrong{
		{nil, api.OK},
		{[]path.Job{}, api.OK},
		{full(api.MaxJobs), api.OK},
		{full(api.MaxJobs + 1), api.ErrLimit},
		{full(1000), api.ErrLimit},
		{jobs(0, 1, 0), api.OK},
		{jobs(api.MaxTime, 1, 0), api.OK},
		{jobs(api.MaxTime+1, 1, 0), api.ErrRange},
		{jobs(math.MaxInt, 1, 0), api.ErrRange},
		{jobs(-1, 1, 0), api.ErrRange},
		{jobs(math.MinInt, 1, 0), api.ErrRange},
		{jobs(0, 0, 0), api.ErrRange},
		{jobs(0, -1, 0), api.ErrRange},
		{jobs(0, math.MinInt, 0), api.ErrRange},
		{jobs(0, api.MaxTime, 0), api.OK},
		{jobs(0, api.MaxTime+1, 0), api.ErrRange},
		{jobs(0, math.MaxInt, 0), api.ErrRange},
		{jobs(0, 1, 9), api.OK},
		{jobs(0, 1, 10), api.ErrRange},
		{jobs(0, 1, -1), api.ErrRange},
		{jobs(0, 1, math.MaxInt), api.ErrRange},
		{jobs(0, 1, math.MinInt), api.ErrRange},
		{jobs(3, 1, 0, 3, 1, 0), api.OK},
		{jobs(3, 1, 0, 4, 1, 0), api.OK},
		{jobs(3, 1, 0, 2, 1, 0), api.ErrOrder},
		{jobs(3, 1, 0, 0, 1, 0), api.ErrOrder},
		// Below the one ahead, though above the one ahead of that.
		{jobs(3, 1, 0, 9, 1, 0, 5, 1, 0), api.ErrOrder},
		{jobs(api.MaxTime, api.MaxTime, 9, api.MaxTime, api.MaxTime, 9), api.OK},
		// Too many, whatever they are.
		{append(full(api.MaxJobs), jobs(-1, 0, 10)...), api.ErrLimit},
		{append(full(api.MaxJobs), jobs(4, 1, 0)...), api.ErrLimit},
		{append(jobs(-1, 0, 10), full(api.MaxJobs)...), api.ErrLimit},
		// Of one job its numbers are looked at ahead of its order.
		{jobs(3, 1, 0, 2, 0, 0), api.ErrRange},
		{jobs(3, 1, 0, 2, 1, 10), api.ErrRange},
		{jobs(3, 1, 0, -1, 1, 0), api.ErrRange},
		// Of several jobs the first one's error is told.
		{jobs(3, 1, 0, 2, 1, 0, 3, 0, 0), api.ErrOrder},
		{jobs(3, 1, 0, 3, 0, 0, 2, 1, 0), api.ErrRange},
		{jobs(3, 0, 0, 2, 1, 0), api.ErrRange},
		// The last of many is looked at, too.
		{append(full(api.MaxJobs-1), jobs(5, 0, 0)...), api.ErrRange},
		{append(full(api.MaxJobs-1), jobs(4, 1, 0)...), api.ErrOrder},
	}
}

// TestCheck: 5.1.
func TestCheck(t *testing.T) {
	for _, w := range wrongs() {
		says(t, path.Check(w.l), w.want, "Check", w.l)
	}
}

// TestJobsWrong: 5.2, 5.3: what Check says comes ahead of what else is wrong.
func TestJobsWrong(t *testing.T) {
	for _, w := range wrongs() {
		if w.want == api.OK {
			continue
		}
		waits, err := path.Waits(w.l)
		refused(t, waits, err, w.want, "Waits", w.l)
		for _, servers := range []int{-1, 0, 1, api.MaxMany, api.MaxMany + 1} {
			begins, err := path.Many(w.l, servers)
			refused(t, begins, err, w.want, "Many", w.l, servers)
		}
		for rule := -1; rule <= 7; rule++ {
			p, err := path.Run(w.l, rule)
			refused(t, p, err, w.want, "Run", w.l, rule)
		}
	}
}

// TestJobsAtTheEdges: 5.2, 5.3: jobs that may just be are taken.
func TestJobsAtTheEdges(t *testing.T) {
	for _, w := range wrongs() {
		if w.want != api.OK {
			continue
		}
		waits, err := path.Waits(w.l)
		if err != nil || len(waits) != len(w.l) {
			t.Errorf("Waits %v: %v, %v", w.l, waits, err)
		}
		begins, err := path.Many(w.l, 1)
		if err != nil || len(begins) != len(w.l) {
			t.Errorf("Many %v: %v, %v", w.l, begins, err)
		}
		for _, rule := range rules() {
			p, err := path.Run(w.l, rule)
			if err != nil || (len(p) == 0) != (len(w.l) == 0) {
				t.Errorf("Run %v, %d: %v, %v", w.l, rule, p, err)
			}
		}
	}
}

// TestServersWrong: 5.2.
func TestServersWrong(t *testing.T) {
	for _, l := range [][]path.Job{nil, jobs(0, 4, 1, 1, 3, 0)} {
		for _, servers := range []int{0, -1, math.MinInt, api.MaxMany + 1, math.MaxInt} {
			begins, err := path.Many(l, servers)
			refused(t, begins, err, api.ErrLimit, "Many", l, servers)
		}
		for _, servers := range []int{1, 2, api.MaxMany} {
			if begins, err := path.Many(l, servers); err != nil || len(begins) != len(l) {
				t.Errorf("Many %v, %d: %v, %v", l, servers, begins, err)
			}
		}
	}
}

// TestRulesWrong: 5.3.
func TestRulesWrong(t *testing.T) {
	for _, l := range [][]path.Job{nil, jobs(0, 4, 1, 1, 3, 0)} {
		for _, rule := range []int{0, -1, math.MinInt, 7, 8, math.MaxInt} {
			p, err := path.Run(l, rule)
			refused(t, p, err, api.ErrArg, "Run", l, rule)
		}
	}
}

// TestWaitsKnown: 5.2.
func TestWaitsKnown(t *testing.T) {
	for _, k := range []struct {
		l    []path.Job
		want []int
	}{
		{nil, nil},
		{jobs(7, 3, 0), []int{0}},
		{jobs(0, 4, 1, 1, 3, 0, 2, 1, 2), []int{0, 3, 5}},
		// Just when the one ahead ends, one earlier, one later.
		{jobs(2, 4, 0, 6, 1, 0), []int{0, 0}},
		{jobs(2, 4, 0, 5, 1, 0), []int{0, 1}},
		{jobs(2, 4, 0, 7, 1, 0), []int{0, 0}},
		// Several at one time; and behind a while of nothing to do.
		{jobs(3, 2, 0, 3, 2, 0, 3, 2, 0), []int{0, 2, 4}},
		{jobs(0, 2, 0, 1, 2, 0, 50, 3, 0, 51, 1, 0), []int{0, 1, 0, 2}},
		// An order by size or class would be another one.
		{jobs(0, 9, 9, 0, 1, 0, 0, 5, 3), []int{0, 9, 10}},
		{jobs(0, api.MaxTime, 0, 0, 1, 0, api.MaxTime, 1, 0), []int{0, api.MaxTime, 1}},
	} {
		got, err := path.Waits(k.l)
		are(t, got, err, k.want, "Waits", k.l)
	}
}

// TestManyKnown: 5.2.
func TestManyKnown(t *testing.T) {
	three := jobs(0, 4, 1, 1, 3, 0, 2, 1, 2)
	for _, k := range []struct {
		l       []path.Job
		servers int
		want    []int
	}{
		{nil, 1, nil},
		{nil, api.MaxMany, nil},
		{three, 1, []int{0, 4, 7}},
		{three, 2, []int{0, 1, 4}},
		{three, 3, []int{0, 1, 2}},
		{three, api.MaxMany, []int{0, 1, 2}},
		// Just when one is free, and behind a while of nothing to do.
		{jobs(0, 4, 0, 0, 6, 0, 4, 2, 0, 5, 1, 0), 2, []int{0, 0, 4, 6}},
		{jobs(0, 4, 0, 0, 6, 0, 20, 2, 0, 20, 1, 0, 20, 5, 0), 2, []int{0, 0, 20, 20, 21}},
		// Who is small doesn't go past those ahead.
		{jobs(0, 9, 0, 0, 9, 0, 1, 8, 0, 1, 1, 0), 2, []int{0, 0, 9, 9}},
		{jobs(0, 1, 0, 0, 5, 0, 0, 5, 0, 0, 5, 0), 2, []int{0, 0, 1, 5}},
	} {
		got, err := path.Many(k.l, k.servers)
		are(t, got, err, k.want, "Many", k.l, k.servers)
	}
}

// TestManyMost: 5.2: MaxJobs at one time, by MaxMany servers, go in rows.
func TestManyMost(t *testing.T) {
	l := slices.Repeat(jobs(api.MaxTime, api.MaxTime, 9), api.MaxJobs)
	begins, err := path.Many(l, api.MaxMany)
	want := make([]int, len(l))
	for i := range want {
		want[i] = api.MaxTime * (1 + i/api.MaxMany)
	}
	are(t, begins, err, want, "Many")
}

// second is who stands where at each second, by servers that take the first of
// the row when they are free: when each begins.
func second(l []path.Job, servers int) []int {
	begins := make([]int, len(l))
	busy := make([]int, servers)
	next := 0
	for now := 0; next < len(l); now++ {
		for i := range busy {
			busy[i] = max(0, busy[i]-1)
		}
		for i := range busy {
			if busy[i] == 0 && next < len(l) && l[next].At <= now {
				begins[next], busy[i] = now, l[next].Size
				next++
			}
		}
	}
	return begins
}

// TestBeginsSecondBySecond: 5.2: Many, and Waits where there is one.
func TestBeginsSecondBySecond(t *testing.T) {
	die := rand.New(rand.NewSource(5))
	for range 3000 {
		l := drawn(die)
		for servers := 1; servers <= 4; servers++ {
			begins, err := path.Many(l, servers)
			are(t, begins, err, second(l, servers), "Many", l, servers)
		}
		waits, err := path.Waits(l)
		want := second(l, 1)
		for i, job := range l {
			want[i] -= job.At
		}
		are(t, waits, err, want, "Waits", l)
	}
}

// TestRunKnown: 5.3.
func TestRunKnown(t *testing.T) {
	three := jobs(0, 4, 1, 1, 3, 0, 2, 1, 2)
	alike := jobs(0, 2, 1, 0, 2, 1, 0, 2, 1)
	inOrder := pieces(0, 0, 2, 1, 2, 4, 2, 4, 6)
	for _, k := range []struct {
		l    []path.Job
		rule int
		want []path.Piece
	}{
		{three, path.First, pieces(0, 0, 4, 1, 4, 7, 2, 7, 8)},
		{three, path.Last, pieces(0, 0, 4, 2, 4, 5, 1, 5, 8)},
		{three, path.Short, pieces(0, 0, 4, 2, 4, 5, 1, 5, 8)},
		{three, path.Class, pieces(0, 0, 4, 1, 4, 7, 2, 7, 8)},
		{three, path.Ahead, pieces(0, 0, 1, 1, 1, 4, 0, 4, 7, 2, 7, 8)},
		{three, path.Shortest, pieces(0, 0, 2, 2, 2, 3, 0, 3, 5, 1, 5, 8)},

		// Of those who came at one time the order is that of their numbers.
		{alike, path.First, inOrder},
		{alike, path.Last, pieces(2, 0, 2, 1, 2, 4, 0, 4, 6)},
		{alike, path.Short, inOrder},
		{alike, path.Class, inOrder},
		{alike, path.Ahead, inOrder},
		{alike, path.Shortest, inOrder},

		// Who comes just when another one ends is there.
		{jobs(0, 3, 0, 1, 2, 0, 3, 1, 0), path.Last, pieces(0, 0, 3, 2, 3, 4, 1, 4, 6)},
		{jobs(0, 3, 0, 1, 2, 0, 3, 1, 0), path.Short, pieces(0, 0, 3, 2, 3, 4, 1, 4, 6)},
		{jobs(0, 3, 0, 1, 2, 1, 3, 1, 0), path.Class, pieces(0, 0, 3, 2, 3, 4, 1, 4, 6)},
		{jobs(0, 3, 0, 1, 2, 1, 3, 1, 0), path.Ahead, pieces(0, 0, 3, 2, 3, 4, 1, 4, 6)},
		{jobs(0, 3, 0, 1, 2, 0, 3, 1, 0), path.Shortest, pieces(0, 0, 3, 2, 3, 4, 1, 4, 6)},
		{jobs(0, 3, 0, 1, 2, 0, 4, 1, 0), path.Last, pieces(0, 0, 3, 1, 3, 5, 2, 5, 6)},

		// Who is served stays so by the first four rules.
		{jobs(0, 9, 9, 1, 1, 0), path.Last, pieces(0, 0, 9, 1, 9, 10)},
		{jobs(0, 9, 9, 1, 1, 0), path.Short, pieces(0, 0, 9, 1, 9, 10)},
		{jobs(0, 9, 9, 1, 1, 0), path.Class, pieces(0, 0, 9, 1, 9, 10)},
		{jobs(0, 9, 9, 1, 1, 0), path.Ahead, pieces(0, 0, 1, 1, 1, 2, 0, 2, 10)},
		{jobs(0, 9, 9, 1, 1, 0), path.Shortest, pieces(0, 0, 1, 1, 1, 2, 0, 2, 10)},

		// A size or class that is like another one's leaves nobody behind.
		{jobs(0, 5, 1, 2, 3, 1), path.Ahead, pieces(0, 0, 5, 1, 5, 8)},
		{jobs(0, 5, 1, 2, 3, 1), path.Shortest, pieces(0, 0, 5, 1, 5, 8)},
		{jobs(0, 5, 1, 2, 2, 1), path.Shortest, pieces(0, 0, 2, 1, 2, 4, 0, 4, 7)},
		// What is left counts, not the size.
		{jobs(0, 5, 0, 4, 3, 0), path.Shortest, pieces(0, 0, 5, 1, 5, 8)},
		{jobs(0, 4, 0, 1, 2, 0, 3, 3, 0), path.Shortest, pieces(0, 0, 1, 1, 1, 3, 0, 3, 6, 2, 6, 9)},
		{jobs(0, 4, 0, 0, 6, 0, 0, 5, 0), path.Short, pieces(0, 0, 4, 2, 4, 9, 1, 9, 15)},

		// A while of nothing to do; and one that is no pause at all.
		{jobs(2, 1, 0, 5, 2, 0), path.First, pieces(0, 2, 3, 1, 5, 7)},
		{jobs(2, 3, 0, 5, 2, 0), path.Shortest, pieces(0, 2, 5, 1, 5, 7)},
		// Left twice, and gone on with.
		{jobs(0, 6, 3, 1, 1, 2, 4, 1, 1), path.Ahead, pieces(0, 0, 1, 1, 1, 2, 0, 2, 4, 2, 4, 5, 0, 5, 8)},
		// Pieces of one job without a pause, though others come meanwhile.
		{jobs(0, 6, 0, 1, 1, 2, 2, 1, 1, 2, 1, 1, 5, 1, 9), path.Ahead, pieces(0, 0, 6, 2, 6, 7, 3, 7, 8, 1, 8, 9, 4, 9, 10)},
	} {
		got, err := path.Run(k.l, k.rule)
		are(t, got, err, k.want, "Run", k.l, k.rule)
	}
	for _, rule := range rules() {
		got, err := path.Run(nil, rule)
		are(t, got, err, nil, "Run", rule)
		got, err = path.Run(jobs(7, 3, 4), rule)
		are(t, got, err, pieces(0, 7, 10), "Run", rule)
	}
}

// before says whether a rule takes the one ahead of the other, of which so
// much is left each.
func before(l []path.Job, left []int, rule, one, other int) bool {
	a, b := l[one], l[other]
	switch rule {
	case path.First:
		return a.At < b.At || a.At == b.At && one < other
	case path.Last:
		return a.At > b.At || a.At == b.At && one > other
	case path.Short:
		return a.Size < b.Size || a.Size == b.Size && one < other
	case path.Class, path.Ahead:
		return a.Class < b.Class || a.Class == b.Class && one < other
	}
	return left[one] < left[other] || left[one] == left[other] && one < other
}

// served is who is served in each second by a rule, -1 where nobody is there.
func served(l []path.Job, rule int) []int {
	left := make([]int, len(l))
	todo := 0
	for i, job := range l {
		left[i] = job.Size
		todo += job.Size
	}
	var out []int
	last := -1
	for now := 0; todo > 0; now++ {
		best := -1
		for i, job := range l {
			if job.At <= now && left[i] > 0 && (best < 0 || before(l, left, rule, i, best)) {
				best = i
			}
		}
		comes := slices.ContainsFunc(l, func(job path.Job) bool { return job.At == now })
		stays := rule < path.Ahead || !comes
		if last >= 0 && left[last] > 0 && stays {
			best = last
		}
		if best >= 0 {
			left[best]--
			todo--
		}
		out = append(out, best)
		last = best
	}
	return out
}

// cut is the pieces of who is served in each second.
func cut(seconds []int) []path.Piece {
	var out []path.Piece
	for now, job := range seconds {
		switch n := len(out); {
		case job < 0:
		case now > 0 && seconds[now-1] == job:
			out[n-1].To = now + 1
		default:
			out = append(out, path.Piece{Job: job, From: now, To: now + 1})
		}
	}
	return out
}

// TestRunSecondBySecond: 5.3.
func TestRunSecondBySecond(t *testing.T) {
	die := rand.New(rand.NewSource(6))
	for range 5000 {
		l := drawn(die)
		for _, rule := range rules() {
			got, err := path.Run(l, rule)
			are(t, got, err, cut(served(l, rule)), "Run", l, rule)
		}
	}
}

// TestRunMost: 5.3: the most jobs, as long as they may be, as late as they may
// come; the order is what is left of it.
func TestRunMost(t *testing.T) {
	l := slices.Repeat(jobs(api.MaxTime, api.MaxTime, 9), api.MaxJobs)
	for _, rule := range rules() {
		var want []path.Piece
		for i := range l {
			job := i
			if rule == path.Last {
				job = len(l) - 1 - i
			}
			want = append(want, path.Piece{Job: job, From: (i + 1) * api.MaxTime, To: (i + 2) * api.MaxTime})
		}
		got, err := path.Run(l, rule)
		are(t, got, err, want, "Run", rule)
		if ends := path.Ends(l, got); slices.Max(ends) != (api.MaxJobs+1)*api.MaxTime {
			t.Errorf("Ends, rule %d: %v", rule, ends)
		}
	}
}

// TestRunManyLeft: 5.3: each one leaves the one ahead of it, and all are gone
// on with, the last one first.
func TestRunManyLeft(t *testing.T) {
	const n = 10
	l := make([]path.Job, n)
	for i := range l {
		l[i] = path.Job{At: i, Size: 100 - 2*i, Class: n - 1 - i}
	}
	for _, rule := range []int{path.Ahead, path.Shortest} {
		got, err := path.Run(l, rule)
		if err != nil || len(got) != 2*n-1 {
			t.Fatalf("Run %d: %v, %v", rule, got, err)
		}
		for i, p := range got {
			if want := min(i, 2*n-2-i); p.Job != want {
				t.Errorf("Run %d: piece %d is of %d, want %d", rule, i, p.Job, want)
			}
		}
	}
}

// TestEndsKnown: 5.4.
func TestEndsKnown(t *testing.T) {
	two := jobs(0, 4, 1, 1, 3, 0)
	for _, k := range []struct {
		l    []path.Job
		p    []path.Piece
		want []int
	}{
		{nil, nil, nil},
		{nil, pieces(0, 1, 2), nil},
		{two, nil, []int{0, 0}},
		{two, pieces(0, 0, 4, 1, 4, 7), []int{4, 7}},
		// The greatest, wherever it stands.
		{two, pieces(0, 0, 2, 0, 5, 9, 0, 3, 4), []int{9, 0}},
		{two, pieces(1, 8, 9, 1, 0, 2), []int{0, 9}},
		// Jobs that there are not.
		{two, pieces(2, 0, 5, -1, 0, 6, math.MaxInt, 0, 7, math.MinInt, 0, 8), []int{0, 0}},
		{two, pieces(2, 0, 5, 1, 0, 1), []int{0, 1}},
		// From at To counts, From behind it doesn't.
		{two, pieces(0, 3, 3, 1, 4, 3), []int{3, 0}},
		{two, pieces(0, 0, 0, 1, 1, 0), []int{0, 0}},
		// From 0 on, up to far.
		{two, pieces(0, -1, 3, 1, 0, 3), []int{0, 3}},
		{two, pieces(0, 5, far, 1, 5, far+1), []int{far, 0}},
		{two, pieces(0, far, far, 1, far+1, far+1), []int{far, 0}},
		{two, pieces(0, math.MinInt, 4, 1, 4, math.MaxInt), []int{0, 0}},
		{two, pieces(0, math.MinInt, math.MinInt, 1, math.MaxInt, math.MaxInt), []int{0, 0}},
		// One that doesn't count leaves the others as they are.
		{two, pieces(0, 0, 4, 0, -5, 9, 0, 9, 8), []int{4, 0}},
	} {
		if got := path.Ends(k.l, k.p); !slices.Equal(got, k.want) {
			t.Errorf("Ends %v, %v: %v, want %v", k.l, k.p, got, k.want)
		}
	}
}

// TestEndsOfJobsThatMayNotBe: 5.4: nothing is said of which jobs these are.
func TestEndsOfJobsThatMayNotBe(t *testing.T) {
	l := slices.Repeat(jobs(-1, 0, 10), api.MaxJobs+1)
	got := path.Ends(l, pieces(api.MaxJobs, 2, 5))
	want := make([]int, len(l))
	want[api.MaxJobs] = 5
	if !slices.Equal(got, want) {
		t.Errorf("Ends: %v, want %v", got, want)
	}
	if got := path.Work(jobs(5, 3, 0, 2, -1, 10), nil, 2); got != -1 {
		t.Errorf("Work: %d, want -1", got)
	}
	if got := path.Work(l, nil, 0); got != 0 {
		t.Errorf("Work: %d, want 0", got)
	}
}

// TestWorkKnown: 5.4.
func TestWorkKnown(t *testing.T) {
	l := jobs(0, 4, 1, 1, 3, 0, 6, 2, 2)
	run := pieces(0, 0, 4, 1, 4, 7, 2, 7, 9)
	for _, k := range []struct {
		l    []path.Job
		p    []path.Piece
		at   int
		want int
	}{
		{nil, nil, 0, 0},
		{nil, nil, math.MinInt, 0},
		{nil, nil, math.MaxInt, 0},
		{l, run, -1, 0},
		{l, run, 0, 4},
		{l, run, 1, 6},
		{l, run, 4, 3},
		{l, run, 5, 2},
		{l, run, 6, 3},
		{l, run, 7, 2},
		{l, run, 8, 1},
		{l, run, 9, 0},
		{l, run, 10, 0},
		{l, run, math.MinInt, 0},
		{l, run, math.MaxInt, 0},
		{l, nil, 5, 7},
		{l, nil, 6, 9},
		// Each piece that counts is less, whatever job it names, and whenever that comes.
		{l, pieces(3, 0, 2), 5, 5},
		{l, pieces(-1, 0, 2, math.MaxInt, 2, 3, math.MinInt, 3, 4), 5, 3},
		{l, pieces(2, 0, 3), 5, 4},
		{nil, pieces(0, 1, 4), 9, -3},
		{nil, pieces(0, 1, 4, 0, 1, 4), 3, -4},
		// Up to the lesser one of To and at.
		{l, pieces(0, 2, 5), 4, 5},
		{l, pieces(0, 2, 5), 3, 6},
		{l, pieces(0, 2, 5), 2, 7},
		{l, pieces(0, 2, 5), 1, 7},
		{l, pieces(0, 2, 2), 5, 7},
		{l, pieces(0, 3, 2), 5, 7},
		// From 0 on, up to far.
		{l, pieces(0, -1, 2), 5, 7},
		{l, pieces(0, -2, -1), 5, 7},
		{l, pieces(0, math.MinInt, 2), 5, 7},
		{l, pieces(0, 4, far), 5, 6},
		{l, pieces(0, 4, far+1), 5, 7},
		{l, pieces(0, 4, math.MaxInt), 5, 7},
		{l, pieces(0, far-1, far), math.MaxInt, 8},
		{l, pieces(0, far, far+1), math.MaxInt, 9},
		{l, pieces(0, math.MinInt, math.MaxInt), math.MaxInt, 9},
	} {
		if got := path.Work(k.l, k.p, k.at); got != k.want {
			t.Errorf("Work %v, %v, %d: %d, want %d", k.l, k.p, k.at, got, k.want)
		}
	}
}

// TestWorkSecondBySecond: 5.4: what came, less the seconds that were served;
// and it is as much by whatever rule (Kleinrock).
func TestWorkSecondBySecond(t *testing.T) {
	die := rand.New(rand.NewSource(7))
	for range 500 {
		l := drawn(die)
		for _, rule := range rules() {
			p, err := path.Run(l, rule)
			if err != nil {
				t.Fatal(err)
			}
			seconds := served(l, path.First)
			for at := range len(seconds) + 3 {
				want := 0
				for _, job := range l {
					if job.At <= at {
						want += job.Size
					}
				}
				for now, job := range seconds {
					if now < at && job >= 0 {
						want--
					}
				}
				if got := path.Work(l, p, at); got != want {
					t.Errorf("Work %v, rule %d, at %d: %d, want %d", l, rule, at, got, want)
				}
			}
		}
	}
}

// stays is how long all jobs are there together.
func stays(t *testing.T, l []path.Job, rule int) int {
	t.Helper()
	p, err := path.Run(l, rule)
	if err != nil {
		t.Fatal(err)
	}
	sum := 0
	for i, end := range path.Ends(l, p) {
		sum += end - l[i].At
	}
	return sum
}

// TestLittle: at all times together as many are there as all stay long; where
// the least is left goes on, that is the least; who came first waits as
// Lindley tells.
func TestLittle(t *testing.T) {
	die := rand.New(rand.NewSource(8))
	for range 500 {
		l := drawn(die)
		shortest := stays(t, l, path.Shortest)
		for _, rule := range rules() {
			all := stays(t, l, rule)
			if all < shortest {
				t.Errorf("%v: rule %d stays %d, the shortest %d", l, rule, all, shortest)
			}
			there := 0
			p, _ := path.Run(l, rule)
			ends := path.Ends(l, p)
			for at := range 100 {
				for i, end := range ends {
					if l[i].At <= at && at < end {
						there++
					}
				}
			}
			if there != all {
				t.Errorf("%v: rule %d: %d there, stays %d", l, rule, there, all)
			}
		}
		waits, err := path.Waits(l)
		p, _ := path.Run(l, path.First)
		want := make([]int, len(l))
		for i, end := range path.Ends(l, p) {
			want[i] = end - l[i].Size - l[i].At
		}
		are(t, waits, err, want, "Waits", l)
	}
}

// TestHandedInStays: P4: lists that are handed in stay as they are, with what
// stands behind their length.
func TestHandedInStays(t *testing.T) {
	room := append(jobs(0, 4, 1, 1, 3, 0, 2, 1, 2), jobs(7, 7, 7, 8, 8, 8)...)
	rest := append(pieces(0, 0, 4, 5, 4, 7, 1, 9, 8), pieces(6, 6, 6, 7, 7, 7)...)
	l, p := room[:3], rest[:3]
	wasRoom, wasRest := slices.Clone(room), slices.Clone(rest)
	path.Check(l)
	path.Waits(l)
	path.Many(l, 2)
	for _, rule := range rules() {
		path.Run(l, rule)
	}
	path.Ends(l, p)
	path.Work(l, p, 5)
	if !slices.Equal(room, wasRoom) || !slices.Equal(rest, wasRest) {
		t.Errorf("%v, %v: were %v, %v", room, rest, wasRoom, wasRest)
	}
}

// TestAnswersAreFresh: P4: who writes into an answer changes no other one.
func TestAnswersAreFresh(t *testing.T) {
	l := jobs(0, 4, 1, 1, 3, 0, 2, 1, 2)
	asked := func() string {
		var out []any
		waits, _ := path.Waits(l)
		begins, _ := path.Many(l, 2)
		out = append(out, fmt.Sprint(waits, begins))
		for _, rule := range rules() {
			p, _ := path.Run(l, rule)
			ends := path.Ends(l, p)
			out = append(out, fmt.Sprint(p, ends))
			clear(p[:cap(p)])
			clear(ends[:cap(ends)])
		}
		clear(waits[:cap(waits)])
		clear(begins[:cap(begins)])
		return fmt.Sprint(out...)
	}
	if first, again := asked(), asked(); first != again {
		t.Errorf("%s, then %s", first, again)
	}
	if !slices.Equal(l, jobs(0, 4, 1, 1, 3, 0, 2, 1, 2)) {
		t.Errorf("jobs are %v", l)
	}
}
