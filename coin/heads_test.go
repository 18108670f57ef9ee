package coin_test

import (
	"foresight/coin"
	"foresight/ratio"
)

// The heads of the face, as the document gives them: another head doesn't
// compile here.
var (
	_ func([]ratio.Ratio, []int, []int) (ratio.Ratio, error) = coin.Lead
	_ func([]ratio.Ratio, []int) (ratio.Ratio, error)        = coin.Wait
	_ func([]ratio.Ratio, []int, []int) (ratio.Ratio, error) = coin.First
	_ func(int, []int) ([][]int, error)                      = coin.Steps
	_ func([]ratio.Ratio, []int) (ratio.Ratio, error)        = coin.Times
)
