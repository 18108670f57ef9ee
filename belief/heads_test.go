package belief_test

import (
	"foresight/belief"
	"foresight/ratio"
)

// The heads of the face, as the document gives them: another head doesn't
// compile here.
var (
	_ func(belief.Hidden) error                              = belief.Check
	_ func(belief.Hidden, []int) (ratio.Ratio, error)        = belief.Likely
	_ func(belief.Hidden, []int) ([][]ratio.Ratio, error)    = belief.Filter
	_ func(belief.Hidden, []int) ([][]ratio.Ratio, error)    = belief.Smooth
	_ func(belief.Hidden, []int) ([]int, ratio.Ratio, error) = belief.Path

	_ = belief.Hidden(struct {
		First []ratio.Ratio
		Next  [][]ratio.Ratio
		Sign  [][]ratio.Ratio
	}{})
)
