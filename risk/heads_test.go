package risk_test

import (
	"foresight/ratio"
	"foresight/risk"
)

// The heads of the face, as the document gives them: another head doesn't
// compile here.
var (
	_ func(int, []risk.Gate) error                            = risk.Check
	_ func([]risk.Gate, []bool) (bool, error)                 = risk.Works
	_ func([]risk.Gate, []ratio.Ratio) (ratio.Ratio, error)   = risk.Chance
	_ func([]risk.Gate, []ratio.Ratio) ([]ratio.Ratio, error) = risk.Counts
	_ func(int, []risk.Gate) ([]int, error)                   = risk.Paths
	_ func(int, []risk.Gate) ([]int, error)                   = risk.Cuts
	_ func(int, int, ratio.Ratio) (ratio.Ratio, error)        = risk.Row

	_ = risk.Gate(struct {
		Least int
		On    []int
	}{})
)
