package trip_test

import "foresight/trip"

// The heads of the face, as the document gives them: another head doesn't
// compile here.
var (
	_ func(trip.Map) error                            = trip.Check
	_ func(trip.Map, []int) (int, error)              = trip.Long
	_ func(trip.Map) ([]int, int, error)              = trip.Round
	_ func(trip.Map) (int, error)                     = trip.Tree
	_ func(trip.Map) ([]int, error)                   = trip.Near
	_ func(trip.Map, []int) ([]int, error)            = trip.Better
	_ func(trip.Map, []int, int) ([]trip.Tour, error) = trip.Savings

	_ = trip.Map([][]int{})
	_ = trip.Tour([]int{})
)
