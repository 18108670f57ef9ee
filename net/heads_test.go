package net_test

import (
	"foresight/net"
	"foresight/ratio"
)

// The heads of the face, as the document gives them: another head doesn't
// compile here.
var (
	_ func([]ratio.Ratio, [][]ratio.Ratio) ([]ratio.Ratio, error)                = net.Traffic
	_ func([]ratio.Ratio, [][]ratio.Ratio, []ratio.Ratio) ([]ratio.Ratio, error) = net.Open
	_ func([]ratio.Ratio, []int) (ratio.Ratio, error)                            = net.Chance
	_ func([][]ratio.Ratio, []ratio.Ratio) ([]ratio.Ratio, error)                = net.Closed
	_ func([]ratio.Ratio, int) ([]ratio.Ratio, error)                            = net.Sums
	_ func([]ratio.Ratio, int) (net.Mean, error)                                 = net.Means

	_ = net.Mean(struct {
		Often        ratio.Ratio
		Time, Number []ratio.Ratio
	}{})
)
