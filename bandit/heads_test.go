package bandit_test

import (
	"foresight/bandit"
	"foresight/ratio"
)

// The heads of the face, as the document gives them: another head doesn't
// compile here.
var (
	_ func(bandit.Arm) error                                                                      = bandit.Check
	_ func(bandit.Arm, ratio.Ratio, int, []bool) (ratio.Ratio, error)                             = bandit.While
	_ func(bandit.Arm, ratio.Ratio) ([]ratio.Ratio, error)                                        = bandit.Index
	_ func(bandit.Arm, ratio.Ratio, int) (ratio.Ratio, error)                                     = bandit.Again
	_ func(a, b bandit.Arm, w ratio.Ratio, i, k, times int) (byIndex, best ratio.Ratio, er error) = bandit.Play
	_ func(a, b bandit.Arm, w ratio.Ratio, i, k int) (byIndex, best ratio.Ratio, er error)        = bandit.Ever

	_ = bandit.Arm(struct {
		Pay  []ratio.Ratio
		Next [][]ratio.Ratio
	}{})
)
