package stop_test

import (
	"foresight/chance"
	"foresight/ratio"
	"foresight/stop"
)

// The heads of the face, as the document gives them: another head doesn't
// compile here.
var (
	_ func(stop.Chain) error                                                                       = stop.Check
	_ func(stop.Chain, int) ([][]ratio.Ratio, error)                                               = stop.Envelope
	_ func(stop.Chain, int) ([]bool, error)                                                        = stop.Takes
	_ func(stop.Chain, int, []bool) ([]ratio.Ratio, error)                                         = stop.Follow
	_ func(n, let int) (ratio.Ratio, error)                                                        = stop.Chosen
	_ func(int) (int, ratio.Ratio, error)                                                          = stop.Secretary
	_ func(chance.Law, ratio.Ratio, int) ([]ratio.Ratio, error)                                    = stop.House
	_ func(chances, pays []ratio.Ratio, wins int) (bets []ratio.Ratio, grows ratio.Ratio, e error) = stop.Horse

	_ = stop.Chain(struct {
		Next [][]ratio.Ratio
		Take []ratio.Ratio
		Cost ratio.Ratio
	}{})
)
