package roads_test

import (
	"foresight/ratio"
	"foresight/roads"
)

// The heads of the face, as the document gives them: another head doesn't
// compile here.
var (
	_ func([]roads.Road) error                                              = roads.Check
	_ func([]roads.Road, ratio.Ratio) ([]ratio.Ratio, ratio.Ratio, error)   = roads.Calm
	_ func([]roads.Road, ratio.Ratio) ([]ratio.Ratio, ratio.Ratio, error)   = roads.Good
	_ func([]roads.Road, []ratio.Ratio) (ratio.Ratio, error)                = roads.Cost
	_ func([]roads.Road, ratio.Ratio) ([]ratio.Ratio, error)                = roads.Toll
	_ func([]roads.Road, []roads.Way, []ratio.Ratio) ([]ratio.Ratio, error) = roads.Times
	_ func([]roads.Road, []roads.Way, []ratio.Ratio) (bool, error)          = roads.Rest

	_ = roads.Road(struct{ Free, Slope ratio.Ratio }{})
	_ = roads.Way([]int{})
)
