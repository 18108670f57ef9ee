package choice_test

import (
	"foresight/choice"
	"foresight/ratio"
)

// The heads of the face, as the document gives them: another head doesn't
// compile here.
var (
	_ func(choice.Model) error                                             = choice.Check
	_ func(choice.Model, []int) ([]ratio.Ratio, error)                     = choice.Value
	_ func(choice.Model, []ratio.Ratio) ([]ratio.Ratio, []int, error)      = choice.Step
	_ func(choice.Model) ([]int, []ratio.Ratio, error)                     = choice.Best
	_ func(choice.Model, []ratio.Ratio) (low, high []ratio.Ratio, e error) = choice.Bounds
	_ func(choice.Model, int, []ratio.Ratio) ([]ratio.Ratio, error)        = choice.Last
	_ func(choice.Model, []int) ([]ratio.Ratio, error)                     = choice.Often

	_ = choice.Act(struct {
		Gain ratio.Ratio
		Next []ratio.Ratio
	}{})
	_ = choice.Model(struct {
		States [][]choice.Act
		Worth  ratio.Ratio
	}{})
)
