package cast_test

import (
	"foresight/cast"
	"foresight/ratio"
)

// The heads of the face, as the document gives them: another head doesn't
// compile here.
var (
	_ func([]ratio.Ratio, ratio.Ratio, ratio.Ratio) ([]ratio.Ratio, error)                                          = cast.Smooth
	_ func([]ratio.Ratio, ratio.Ratio, ratio.Ratio, ratio.Ratio, ratio.Ratio) ([]ratio.Ratio, []ratio.Ratio, error) = cast.Trend
	_ func([]cast.Look, cast.State) ([]cast.State, error)                                                           = cast.Kalman
	_ func([]cast.Look, cast.State) ([]cast.State, error)                                                           = cast.Inform
	_ func([]ratio.Ratio, int) ([]ratio.Ratio, error)                                                               = cast.Fit
	_ struct{ Grow, Stir, Seen, Blur ratio.Ratio }                                                                  = cast.Look{}
	_ struct{ Mean, Spread ratio.Ratio }                                                                            = cast.State{}
)
