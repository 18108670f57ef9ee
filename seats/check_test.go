package seats_test

import (
	"math"
	"math/rand"
	"testing"

	"foresight/api"
	"foresight/chance"
	"foresight/ratio"
	"foresight/seats"
)

// bad is a law that may not be, and what chance's Check says of it.
type bad struct {
	name string
	l    chance.Law
	want api.Errno
}

// wrongLaws is lists that are no laws, those with several errors among them.
func wrongLaws(t *testing.T) []bad {
	t.Helper()
	return []bad{
		{"nil", nil, api.ErrLimit},
		{"no numbers", chance.Law{}, api.ErrLimit},
		{"MaxSize + 2 numbers", even(api.MaxSize + 2), api.ErrLimit},
		{"MaxSize + 2 numbers, one below 0", append(law(t, "-1/2 1 1/2"), make(chance.Law, api.MaxSize-1)...), api.ErrLimit},
		{"one below 0", law(t, "-1/2 1 1/2"), api.ErrArg},
		{"the last just below 0", law(t, "1/2 1/2 -~"), api.ErrArg},
		{"below 0, and not 1 together", law(t, "1/2 -1/3 1/2"), api.ErrArg},
		{"a nought", law(t, "0"), api.ErrSum},
		{"just above 1 together", law(t, "1/2 1/2 ~"), api.ErrSum},
		{"below 1 together", law(t, "1/3 1/3 333333/1000000"), api.ErrSum},
	}
}

// wrongPrices is prices that no class may have.
func wrongPrices() []int {
	return []int{0, -1, -mostPrice, math.MinInt, mostPrice + 1, mostPrice + 2, 1 << 32, math.MaxInt}
}

// refused fails unless all say one thing of fares that may not be, whatever
// else is wrong.
func refused(t *testing.T, l []seats.Fare, want api.Errno, what ...any) {
	t.Helper()
	says(t, seats.Check(l), want, "Check", what)
	for _, n := range []int{0, 3, -1, mostSeats + 1, math.MaxInt} {
		for _, classes := range []int{0, len(l), -1, len(l) + 1} {
			refusedWorth(t, l, classes, n, want, what)
		}
		refusedKeep(t, l, n, want, what)
		for _, keep := range [][]int{nil, make([]int, max(0, len(l)-1)), make([]int, len(l)), {-1}} {
			refusedSell(t, l, n, keep, want, what)
		}
	}
}

// 17.1: what may be: 1 to MaxStates classes, prices from 1 to 100,000, like
// ones, too.
func TestCheck(t *testing.T) {
	die := rand.New(rand.NewSource(1))
	for n := 1; n <= api.MaxStates; n++ {
		l := plain(n)
		says(t, seats.Check(l), api.OK, "plain", n)
		for class := range l {
			l[class] = seats.Fare{Price: mostPrice, Asks: even(api.MaxSize + 1)}
		}
		says(t, seats.Check(l), api.OK, "the dearest", n)
		for class := range l {
			l[class] = seats.Fare{Price: 1, Asks: sure(0)}
		}
		says(t, seats.Check(l), api.OK, "the cheapest", n)
		for range 20 {
			l := drawn(die, n, 6)
			says(t, seats.Check(l), api.OK, written(l))
			says(t, seats.Check(long(t, l)), api.OK, "long", written(l))
		}
	}
	says(t, seats.Check(fares(t, "100000 1; 1 0 1; 1 1/2 1/2")), api.OK)
}

// 17.1: how many classes there may be, whatever else is wrong.
func TestCheckHowMany(t *testing.T) {
	refused(t, nil, api.ErrLimit, "nil")
	refused(t, []seats.Fare{}, api.ErrLimit, "no class")
	for _, n := range []int{api.MaxStates + 1, api.MaxStates + 2, 50} {
		refused(t, plain(n), api.ErrLimit, n, "classes")
		refused(t, make([]seats.Fare, n), api.ErrLimit, n, "classes without a price")
	}
}

// 17.1: each wrong price, and each wrong law, alone, at each place.
func TestCheckWrongClass(t *testing.T) {
	for n := 1; n <= api.MaxStates; n++ {
		for class := range n {
			for _, price := range wrongPrices() {
				l := plain(n)
				l[class].Price = price
				refused(t, l, api.ErrRange, n, "classes, of", class, price)
			}
			for _, b := range wrongLaws(t) {
				l := plain(n)
				l[class].Asks = b.l
				refused(t, l, b.want, n, "classes, of", class, b.name)
			}
			if class > 0 {
				for _, more := range []int{1, 10, mostPrice - 1000} {
					l := plain(n)
					l[class].Price = l[class-1].Price + more
					refused(t, l, api.ErrOrder, n, "classes, of", class, more)
				}
			}
		}
	}
}

// 17.1: of one class first its price, then the order, then its law.
func TestCheckOneWrongTwice(t *testing.T) {
	for _, b := range wrongLaws(t) {
		for class := 1; class < 3; class++ {
			for _, price := range wrongPrices() {
				l := plain(3)
				l[class] = seats.Fare{Price: price, Asks: b.l}
				refused(t, l, api.ErrRange, class, price, b.name)
			}
			for _, more := range []int{1, mostPrice - 1000} {
				l := plain(3)
				l[class] = seats.Fare{Price: l[class-1].Price + more, Asks: b.l}
				refused(t, l, api.ErrOrder, class, more, b.name)
			}
		}
	}
}

// 17.1: class by class: all of one ahead of the next one's.
func TestCheckTwoWrong(t *testing.T) {
	for _, b := range wrongLaws(t) {
		for _, price := range wrongPrices() {
			l := plain(3)
			l[0].Asks, l[1].Price = b.l, price
			refused(t, l, b.want, b.name, "ahead of price", price)
			l = plain(3)
			l[1].Asks, l[2].Price = b.l, price
			refused(t, l, b.want, b.name, "of 1, ahead of price", price)
			l = plain(3)
			l[1].Price, l[2].Asks = price, b.l
			refused(t, l, api.ErrRange, price, "ahead of", b.name)
		}
		l := plain(3)
		l[0].Asks, l[1].Price = b.l, l[0].Price+1
		refused(t, l, b.want, b.name, "ahead of the order")
		l = plain(3)
		l[1].Price, l[2].Asks = l[0].Price+1, b.l
		refused(t, l, api.ErrOrder, "the order ahead of", b.name)
		for _, other := range wrongLaws(t) {
			l := plain(3)
			l[1].Asks, l[2].Asks = b.l, other.l
			says(t, seats.Check(l), b.want, b.name, "ahead of", other.name)
		}
	}
	l := plain(3)
	l[1].Price, l[2].Price = l[0].Price+1, 0
	refused(t, l, api.ErrOrder, "the order ahead of a price")
	// Beyond what may be, but the class behind it is cheaper.
	l = plain(3)
	l[0].Price = mostPrice + 1
	refused(t, l, api.ErrRange, "the first price")
}

// 17.2: what Check says of dear, ahead of cheap.
func TestLittlewoodWrong(t *testing.T) {
	cheaps := []int{math.MinInt, -1, 0, 1, 100, 101, math.MaxInt}
	for _, cheap := range cheaps {
		refusedLittlewood(t, seats.Fare{}, cheap, api.ErrRange, "the zero value")
		for _, b := range wrongLaws(t) {
			refusedLittlewood(t, seats.Fare{Price: 100, Asks: b.l}, cheap, b.want, b.name)
			for _, price := range wrongPrices() {
				refusedLittlewood(t, seats.Fare{Price: price, Asks: b.l}, cheap, api.ErrRange, price, b.name)
			}
		}
		for _, price := range wrongPrices() {
			refusedLittlewood(t, seats.Fare{Price: price, Asks: even(3)}, cheap, api.ErrRange, price)
		}
	}
	for _, price := range []int{1, 2, 100, mostPrice} {
		for _, cheap := range []int{math.MinInt, -price, -1, 0, price + 1, 2 * price, math.MaxInt} {
			if cheap < 1 || cheap > price {
				refusedLittlewood(t, seats.Fare{Price: price, Asks: even(3)}, cheap, api.ErrRange, price)
			}
		}
	}
}

// 17.3: how many seats one may ask of, and of how many classes.
func TestSeatsWrong(t *testing.T) {
	for _, classes := range []int{1, 2, api.MaxStates} {
		l := plain(classes)
		for _, n := range []int{math.MinInt, -1, mostSeats + 1, 2 * mostSeats, math.MaxInt} {
			for _, first := range []int{-1, 0, 1, classes, classes + 1, math.MaxInt} {
				refusedWorth(t, l, first, n, api.ErrRange, classes)
			}
			refusedKeep(t, l, n, api.ErrRange, classes)
			// ErrRange is told ahead of what is wrong with keep.
			for _, keep := range [][]int{nil, make([]int, classes-1), make([]int, classes), {-1}} {
				refusedSell(t, l, n, keep, api.ErrRange, classes)
			}
		}
		for _, first := range []int{math.MinInt, -1, classes + 1, api.MaxStates + 1, math.MaxInt} {
			for _, n := range []int{0, 3, mostSeats} {
				refusedWorth(t, l, first, n, api.ErrRange, classes)
			}
		}
	}
}

// 17.3: Sell: keep is one shorter than the classes, ahead of what is in it;
// then none is below 0, at each place.
func TestKeepWrong(t *testing.T) {
	for classes := 1; classes <= api.MaxStates; classes++ {
		l := plain(classes)
		for _, n := range []int{0, 1, mostSeats} {
			for length := range api.MaxStates + 3 {
				if length != classes-1 {
					keep := make([]int, length)
					refusedSell(t, l, n, keep, api.ErrForm, classes)
					for i := range keep {
						keep[i] = -1
					}
					refusedSell(t, l, n, keep, api.ErrForm, classes)
				}
			}
			for place := range classes - 1 {
				for _, less := range []int{-1, -n - 1, math.MinInt} {
					keep := make([]int, classes-1)
					keep[place] = less
					refusedSell(t, l, n, keep, api.ErrRange, classes)
				}
			}
			got, err := seats.Sell(l, n, make([]int, classes-1))
			says(t, err, api.OK, classes, n, got.Text())
		}
	}
	refusedSell(t, plain(1), 3, []int{0}, api.ErrForm)
	got, err := seats.Sell(plain(1), 0, []int{})
	if err != nil || got.Cmp(ratio.Ratio{}) != 0 {
		t.Errorf("no seats: %s, %v", got.Text(), err)
	}
}
