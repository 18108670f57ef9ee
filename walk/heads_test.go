package walk_test

import (
	"foresight/ratio"
	"foresight/walk"
)

// The heads of the face, as the document gives them: another head doesn't
// compile here.
var (
	_ func(int, int) (string, error)                                = walk.Ways
	_ func(int, int) (string, error)                                = walk.Above
	_ func(int, int) (ratio.Ratio, error)                           = walk.Ahead
	_ func(int, int, ratio.Ratio) (ratio.Ratio, ratio.Ratio, error) = walk.Ruin
	_ func(int, int, int, ratio.Ratio) ([]ratio.Ratio, error)       = walk.Spread
)
