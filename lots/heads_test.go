package lots_test

import "foresight/lots"

// The heads of the face, as the document gives them: another head doesn't
// compile here.
var (
	_ func(lots.Need) error               = lots.Check
	_ func(lots.Need, []int) (int, error) = lots.Cost
	_ func(lots.Need) ([]int, int, error) = lots.Plan

	_ = lots.Need(struct{ Wanted, Order, Keep []int }{})
)
