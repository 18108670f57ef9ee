package lots_test

import (
	"math"
	"math/rand"
	"slices"
	"testing"

	"foresight/api"
	"foresight/lots"
)

// The bounds that 11.1 names.
const (
	mostPeriods = 50
	mostEach    = 1_000_000
	mostOrdered = 50_000_000
)

// alike is one number so often.
func alike(number, n int) []int { return slices.Repeat([]int{number}, n) }

// steady is a need that is the same in each of so many periods.
func steady(periods, wanted, order, keep int) lots.Need {
	return lots.Need{Wanted: alike(wanted, periods), Order: alike(order, periods), Keep: alike(keep, periods)}
}

// copied is a need with lists of its own.
func copied(n lots.Need) lots.Need {
	return lots.Need{Wanted: slices.Clone(n.Wanted), Order: slices.Clone(n.Order), Keep: slices.Clone(n.Keep)}
}

// total is the sum of numbers.
func total(l []int) int {
	sum := 0
	for _, n := range l {
		sum += n
	}
	return sum
}

// says fails unless an error is that Errno itself, as no place belongs to it.
func says(t *testing.T, err error, want api.Errno, what ...any) {
	t.Helper()
	if want == api.OK && err == nil {
		return
	}
	if err != error(want) {
		t.Errorf("%v: error %v, want %v", what, err, want)
	}
}

// costs fails unless Cost is as wanted, with no error.
func costs(t *testing.T, n lots.Need, ordered []int, want int) {
	t.Helper()
	got, err := lots.Cost(n, ordered)
	if err != nil || got != want {
		t.Errorf("Cost of %v, %v: %d, error %v, want %d", n, ordered, got, err, want)
	}
}

// refusedCost fails unless Cost answers an error, and 0.
func refusedCost(t *testing.T, n lots.Need, ordered []int, want api.Errno) {
	t.Helper()
	got, err := lots.Cost(n, ordered)
	says(t, err, want, "Cost", n, ordered)
	if got != 0 {
		t.Errorf("Cost of %v, %v: %d beside an error", n, ordered, got)
	}
}

// planned fails unless Plan is as wanted, with no error.
func planned(t *testing.T, n lots.Need, ordered []int, cost int) {
	t.Helper()
	got, sum, err := lots.Plan(n)
	if err != nil || sum != cost || !slices.Equal(got, ordered) {
		t.Errorf("Plan of %v: %v, %d, error %v, want %v, %d", n, got, sum, err, ordered, cost)
	}
}

// refused fails unless all of the face answer an error for a need, also where
// more is wrong that is told later.
func refused(t *testing.T, n lots.Need, want api.Errno) {
	t.Helper()
	says(t, lots.Check(n), want, "Check", n)
	for _, ordered := range [][]int{n.Wanted, nil, alike(-1, len(n.Wanted)), alike(0, len(n.Wanted)+1)} {
		refusedCost(t, n, ordered, want)
	}
	ordered, cost, err := lots.Plan(n)
	says(t, err, want, "Plan", n)
	if ordered != nil || cost != 0 {
		t.Errorf("Plan of %v: %v and %d beside an error", n, ordered, cost)
	}
}

// TestHowMany: 11.1: up to 50 in Wanted, whatever else is wrong.
func TestHowMany(t *testing.T) {
	for _, periods := range []int{0, 1, 2, mostPeriods - 1, mostPeriods} {
		n := steady(periods, 1, 0, 1)
		says(t, lots.Check(n), api.OK, periods)
		costs(t, n, n.Wanted, 0)
		planned(t, n, n.Wanted, 0)
	}
	for _, periods := range []int{mostPeriods + 1, 1000} {
		refused(t, steady(periods, 1, 1, 1), api.ErrLimit)
		refused(t, steady(periods, -1, 1, 1), api.ErrLimit)
		refused(t, lots.Need{Wanted: alike(1, periods)}, api.ErrLimit)
	}
	// Of the others it is their form, however many they are.
	refused(t, lots.Need{Wanted: alike(1, mostPeriods), Order: alike(1, mostPeriods+1), Keep: alike(1, mostPeriods+1)}, api.ErrForm)
}

// TestForm: 11.1: Order and Keep are as long as Wanted, whatever stands there.
func TestForm(t *testing.T) {
	for _, periods := range []int{0, 1, 2, 7, mostPeriods} {
		for _, order := range []int{0, periods - 1, periods, periods + 1, 90} {
			for _, keep := range []int{0, periods - 1, periods, periods + 1, 90} {
				if order < 0 || keep < 0 || order == periods && keep == periods {
					continue
				}
				for _, number := range []int{1, -1, mostEach + 1} {
					refused(t, lots.Need{Wanted: alike(number, periods), Order: alike(number, order), Keep: alike(number, keep)}, api.ErrForm)
				}
			}
		}
	}
}

// TestRange: 11.1: all numbers from 0 to 1,000,000, each at each place.
func TestRange(t *testing.T) {
	for _, number := range []int{0, 1, mostEach - 1, mostEach} {
		says(t, lots.Check(steady(4, number, number, number)), api.OK, number)
	}
	for _, number := range []int{-1, mostEach + 1, math.MinInt, math.MaxInt} {
		for _, periods := range []int{1, 3, mostPeriods} {
			for at := range periods {
				for list := range 3 {
					n := steady(periods, 2, 3, 1)
					[][]int{n.Wanted, n.Order, n.Keep}[list][at] = number
					refused(t, n, api.ErrRange)
				}
			}
		}
	}
}

// TestCost: 11.1 by hand.
func TestCost(t *testing.T) {
	n := lots.Need{Wanted: []int{10, 20, 5, 30}, Order: alike(50, 4), Keep: alike(1, 4)}
	costs(t, n, []int{35, 0, 0, 30}, 130)
	costs(t, n, []int{10, 20, 5, 30}, 200)
	costs(t, n, []int{65, 0, 0, 0}, 50+55+35+30)
	costs(t, n, []int{10, 25, 0, 30}, 155)
	// One may order where something is left.
	costs(t, n, []int{11, 19, 5, 30}, 201)
	costs(t, n, []int{12, 20, 4, 29}, 200+2+2+1)
	costs(t, lots.Need{}, nil, 0)
	costs(t, lots.Need{}, []int{}, 0)
	// Each period has its own numbers.
	own := lots.Need{Wanted: []int{1, 2, 0, 4}, Order: []int{1, 10, 100, 1000}, Keep: []int{3, 5, 7, 11}}
	costs(t, own, []int{7, 0, 0, 0}, 1+6*3+4*5+4*7)
	costs(t, own, []int{1, 2, 0, 4}, 1+10+1000)
	costs(t, own, []int{3, 0, 4, 0}, 1+2*3+100+4*7)
	costs(t, own, []int{2, 1, 1, 3}, 1+3+10+100+7+1000)
	// Nothing is wanted, and nothing is ordered: that is no order.
	costs(t, steady(5, 0, 9, 9), alike(0, 5), 0)
	costs(t, steady(1, 0, 9, 9), []int{0}, 0)
	costs(t, steady(1, 1, 9, 9), []int{1}, 9)
}

// TestCostMost: the most that can be, exactly.
func TestCostMost(t *testing.T) {
	n := steady(mostPeriods, mostEach, mostEach, mostEach)
	first := append([]int{mostOrdered}, alike(0, mostPeriods-1)...)
	costs(t, n, first, mostEach+mostEach*mostEach*(49*50/2))
	costs(t, n, n.Wanted, mostPeriods*mostEach)
	planned(t, n, n.Wanted, mostPeriods*mostEach)
	late := steady(mostPeriods, 0, mostEach, mostEach)
	late.Wanted[mostPeriods-1] = mostEach
	costs(t, late, append([]int{mostEach}, alike(0, mostPeriods-1)...), mostEach+49*mostEach*mostEach)
}

// TestCostForm: 11.1: ordered is as long, whatever stands there.
func TestCostForm(t *testing.T) {
	for _, periods := range []int{0, 1, 5, mostPeriods} {
		for _, many := range []int{0, periods - 1, periods + 1, 1000} {
			if many < 0 || many == periods {
				continue
			}
			for _, number := range []int{0, 1, -1, mostOrdered + 1} {
				refusedCost(t, steady(periods, 1, 1, 1), alike(number, many), api.ErrForm)
			}
		}
	}
}

// TestCostRange: 11.1: what is ordered is from 0 to 50,000,000, at each place.
func TestCostRange(t *testing.T) {
	for _, number := range []int{-1, mostOrdered + 1, math.MinInt, math.MaxInt} {
		for _, periods := range []int{1, 4, mostPeriods} {
			for at := range periods {
				ordered := alike(2, periods)
				ordered[at] = number
				refusedCost(t, steady(periods, 2, 1, 1), ordered, api.ErrRange)
			}
		}
	}
	// The most itself may be ordered: then it's only too much.
	refusedCost(t, steady(1, mostEach, 1, 1), []int{mostOrdered}, api.ErrSum)
	refusedCost(t, steady(mostPeriods, mostEach, mostEach, mostEach), alike(mostOrdered, mostPeriods), api.ErrSum)
}

// TestCostNone: 11.1: less is there than is wanted, though it comes later.
func TestCostNone(t *testing.T) {
	n := lots.Need{Wanted: []int{3, 1, 2}, Order: alike(1, 3), Keep: alike(1, 3)}
	for _, ordered := range [][]int{{2, 2, 2}, {0, 0, 0}, {0, 6, 0}, {3, 0, 3}, {3, 0, 0}, {4, 0, 1}, {5, 0, 0}, {2, 90, 90}} {
		refusedCost(t, n, ordered, api.ErrNone)
	}
	refusedCost(t, steady(1, 1, 0, 0), []int{0}, api.ErrNone)
}

// TestCostSum: 11.1: something is left in the end.
func TestCostSum(t *testing.T) {
	n := lots.Need{Wanted: []int{3, 1, 2}, Order: alike(1, 3), Keep: alike(0, 3)}
	for _, ordered := range [][]int{{7, 0, 0}, {3, 1, 3}, {3, 2, 2}, {4, 1, 2}, {90, 90, 90}} {
		refusedCost(t, n, ordered, api.ErrSum)
	}
	refusedCost(t, steady(1, 0, 0, 0), []int{1}, api.ErrSum)
}

// TestCostPeriodByPeriod: 11.1: what is wrong in a period is told ahead of what
// is wrong in later ones, in each the range ahead of what is missing, and what
// is left behind all.
func TestCostPeriodByPeriod(t *testing.T) {
	n := steady(3, 2, 1, 1)
	refusedCost(t, n, []int{1, -1, 2}, api.ErrNone)
	refusedCost(t, n, []int{2, 1, mostOrdered + 1}, api.ErrNone)
	refusedCost(t, n, []int{-1, 1, 2}, api.ErrRange)
	refusedCost(t, n, []int{2, -1, 0}, api.ErrRange)
	refusedCost(t, n, []int{9, -1, 9}, api.ErrRange)
	refusedCost(t, n, []int{9, 9, mostOrdered + 1}, api.ErrRange)
	refusedCost(t, n, []int{3, 1, 1}, api.ErrNone)
	refusedCost(t, n, []int{mostOrdered, 0, -1}, api.ErrRange)
}

// TestPlan: 11.2 by hand.
func TestPlan(t *testing.T) {
	planned(t, lots.Need{}, nil, 0)
	planned(t, lots.Need{Wanted: []int{}, Order: []int{}, Keep: []int{}}, nil, 0)
	planned(t, lots.Need{Wanted: []int{10, 20, 5, 30}, Order: alike(50, 4), Keep: alike(1, 4)}, []int{35, 0, 0, 30}, 130)
	planned(t, steady(1, 7, 3, 9), []int{7}, 3)
	planned(t, steady(1, 0, 3, 9), []int{0}, 0)
	planned(t, steady(4, 0, 3, 9), []int{0, 0, 0, 0}, 0)
	planned(t, steady(4, 1, 100, 1), []int{4, 0, 0, 0}, 106)
	planned(t, steady(4, 1, 0, 1), []int{1, 1, 1, 1}, 0)
	// What is wanted later is ordered where that is cheap, though nothing is wanted there.
	planned(t, lots.Need{Wanted: []int{0, 0, 5}, Order: []int{30, 1, 40}, Keep: []int{0, 1, 0}}, []int{0, 5, 0}, 6)
	// Of periods in which nothing is wanted none costs anything.
	planned(t, lots.Need{Wanted: []int{0, 4, 0, 0, 3, 0}, Order: alike(10, 6), Keep: alike(1, 6)}, []int{0, 7, 0, 0, 0, 0}, 19)
	planned(t, lots.Need{Wanted: []int{0, 4, 0, 0, 4, 0}, Order: alike(10, 6), Keep: alike(1, 6)}, []int{0, 4, 0, 0, 4, 0}, 20)
}

// TestPlanLatest: 11.2: of like plans the one whose last run begins the latest,
// and so on back.
func TestPlanLatest(t *testing.T) {
	// To order once more costs as much as to keep.
	planned(t, steady(2, 5, 5, 1), []int{5, 5}, 10)
	planned(t, steady(3, 5, 5, 1), []int{5, 5, 5}, 15)
	// As cheap are 1 and 2, and all at once.
	planned(t, steady(3, 1, 2, 1), []int{2, 0, 1}, 5)
	planned(t, steady(3, 1, 3, 2), []int{2, 0, 1}, 8)
	// As cheap are 2 1 2, 1 2 2, 3 2 and 2 3.
	planned(t, steady(5, 1, 2, 1), []int{2, 0, 2, 0, 1}, 8)
	// The last run is sure; of those ahead of it 1 2 and 3 are as cheap.
	planned(t, lots.Need{Wanted: alike(1, 4), Order: []int{2, 2, 2, 0}, Keep: alike(1, 4)}, []int{2, 0, 1, 1}, 5)
	// Nothing costs anything: each period is a run.
	planned(t, steady(6, 3, 0, 0), alike(3, 6), 0)
	// What is ordered where nothing is wanted is kept for nothing: the last run begins behind.
	planned(t, lots.Need{Wanted: []int{0, 0, 4, 0}, Order: alike(9, 4), Keep: alike(0, 4)}, []int{0, 0, 4, 0}, 9)
}

// parted is the plan of 11.2 by its words, of all ways to part periods into
// runs; a way is where runs begin.
func parted(n lots.Need) (ordered []int, cost int) {
	periods := len(n.Wanted)
	if periods == 0 {
		return nil, 0
	}
	var latest []int
	for set := range 1 << (periods - 1) {
		plan, begins := alike(0, periods), []int{0}
		for period, wanted := range n.Wanted {
			if period > 0 && set>>(period-1)&1 == 1 {
				begins = append(begins, period)
			}
			plan[begins[len(begins)-1]] += wanted
		}
		slices.Reverse(begins)
		sum := paid(n, plan)
		if latest == nil || sum < cost || sum == cost && slices.Compare(begins, latest) > 0 {
			ordered, cost, latest = plan, sum, begins
		}
	}
	return ordered, cost
}

// paid is what a plan that can be done costs by the words of 11.1.
func paid(n lots.Need, ordered []int) int {
	sum := 0
	for period := range ordered {
		if ordered[period] != 0 {
			sum += n.Order[period]
		}
		sum += n.Keep[period] * (total(ordered[:period+1]) - total(n.Wanted[:period+1]))
	}
	return sum
}

// some is a need of up to so many periods that looks drawn, the same each time.
func some(die *rand.Rand, most int) lots.Need {
	periods := die.Intn(most + 1)
	wanted, order, keep := 1+die.Intn(9), 1+die.Intn(30), 1+die.Intn(4)
	n := steady(periods, 0, 0, 0)
	for i := range periods {
		n.Wanted[i] = max(0, die.Intn(wanted+2)-2)
		n.Order[i] = die.Intn(order)
		n.Keep[i] = die.Intn(keep)
	}
	return n
}

// TestPlanDrawn: against all ways to part periods, also where many cost the same.
func TestPlanDrawn(t *testing.T) {
	die := rand.New(rand.NewSource(1))
	for range 4000 {
		n := some(die, 9)
		ordered, cost := parted(n)
		planned(t, n, ordered, cost)
		costs(t, n, ordered, cost)
	}
}

// every calls what is given with each plan that can be done from a period on.
func every(n lots.Need, each func(ordered []int)) {
	ordered := alike(0, len(n.Wanted))
	var from func(period, left int)
	from = func(period, left int) {
		if period == len(ordered) {
			if left == 0 {
				each(ordered)
			}
			return
		}
		for much := max(0, n.Wanted[period]-left); left+much <= total(n.Wanted[period:]); much++ {
			ordered[period] = much
			from(period+1, left+much-n.Wanted[period])
		}
	}
	from(0, 0)
}

// TestPlanBest: no plan costs less, whatever it orders when; and Cost is what
// its words say of each.
func TestPlanBest(t *testing.T) {
	die := rand.New(rand.NewSource(2))
	for range 150 {
		n := some(die, 4)
		least := math.MaxInt
		every(n, func(ordered []int) {
			want := paid(n, ordered)
			costs(t, n, ordered, want)
			least = min(least, want)
		})
		_, cost, err := lots.Plan(n)
		if err != nil || cost != least {
			t.Errorf("Plan of %v: %d, error %v, but one costs %d", n, cost, err, least)
		}
	}
}

// TestPlanMany: with many periods a plan can be done, costs what it says, and
// no more than when two runs of it are one, or one of them is two.
func TestPlanMany(t *testing.T) {
	die := rand.New(rand.NewSource(3))
	for range 200 {
		n := some(die, mostPeriods)
		ordered, cost, err := lots.Plan(n)
		says(t, err, api.OK, n)
		costs(t, n, ordered, cost)
		for period := range ordered {
			other := slices.Clone(ordered)
			if other[period] > 0 {
				for before := range period {
					other = slices.Clone(ordered)
					other[before] += other[period]
					other[period] = 0
					dearer(t, n, other, cost)
				}
				continue
			}
			begin := period
			for begin > 0 && ordered[begin] == 0 {
				begin--
			}
			rest := total(ordered[:period]) - total(n.Wanted[:period])
			other[begin], other[period] = other[begin]-rest, rest
			dearer(t, n, other, cost)
		}
	}
}

// dearer fails if a plan costs less than the best one.
func dearer(t *testing.T, n lots.Need, ordered []int, best int) {
	t.Helper()
	cost, err := lots.Cost(n, ordered)
	if err != nil || cost < best {
		t.Errorf("%v: %v costs %d, error %v, the best one %d", n, ordered, cost, err, best)
	}
}

// marked is a list with two numbers behind its length, where nothing may be
// written: the whole, and the list.
func marked(l []int) (whole, list []int) {
	whole = append(slices.Clone(l), 91, 92)
	return whole, whole[:len(l)]
}

// TestHandedInStays: P4: nothing that is handed in is written into, nor what
// stands behind a list's length.
func TestHandedInStays(t *testing.T) {
	die := rand.New(rand.NewSource(4))
	for range 200 {
		n := some(die, 12)
		var wholes [4][]int
		var in lots.Need
		var ordered []int
		wholes[0], in.Wanted = marked(n.Wanted)
		wholes[1], in.Order = marked(n.Order)
		wholes[2], in.Keep = marked(n.Keep)
		wholes[3], ordered = marked(n.Wanted)
		lots.Check(in)
		lots.Cost(in, ordered)
		lots.Plan(in)
		for i, l := range [][]int{n.Wanted, n.Order, n.Keep, n.Wanted} {
			if want := append(slices.Clone(l), 91, 92); !slices.Equal(wholes[i], want) {
				t.Errorf("%v: list %d was written into: %v", n, i, wholes[i])
			}
		}
	}
}

// TestAnswersAreFresh: P4: a plan is the caller's; asked again, the same comes,
// though the first answer and what was handed in were spoiled.
func TestAnswersAreFresh(t *testing.T) {
	die := rand.New(rand.NewSource(5))
	for range 200 {
		n := some(die, 12)
		in := copied(n)
		ordered, cost, err := lots.Plan(in)
		says(t, err, api.OK, n)
		want := slices.Clone(ordered)
		for _, l := range [][]int{in.Wanted, in.Order, in.Keep} {
			for i := range l {
				l[i] = 77
			}
		}
		if !slices.Equal(ordered, want) {
			t.Errorf("%v: a plan hangs on what was handed in", n)
		}
		ordered = ordered[:cap(ordered)]
		for i := range ordered {
			ordered[i] = -7
		}
		planned(t, n, want, cost)
	}
}
