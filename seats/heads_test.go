package seats_test

import (
	"foresight/chance"
	"foresight/ratio"
	"foresight/seats"
)

// The heads of the face, as the document gives them: another head doesn't
// compile here.
var (
	_ func([]seats.Fare) error                            = seats.Check
	_ func(seats.Fare, int) (int, error)                  = seats.Littlewood
	_ func([]seats.Fare, int, int) ([]ratio.Ratio, error) = seats.Worth
	_ func([]seats.Fare, int) ([]int, error)              = seats.Keep
	_ func([]seats.Fare, int, []int) (ratio.Ratio, error) = seats.Sell

	_ = seats.Fare(struct {
		Price int
		Asks  chance.Law
	}{})
)
