package chance_test

import (
	"foresight/chance"
	"foresight/ratio"
)

// The heads of the face, as the document gives them: another head doesn't
// compile here.
var (
	_ []ratio.Ratio                                    = chance.Law(nil)
	_ func(chance.Law) error                           = chance.Check
	_ func([]ratio.Ratio, int) error                   = chance.Shares
	_ func(chance.Law, int) (ratio.Ratio, error)       = chance.Moment
	_ func(chance.Law, int) (ratio.Ratio, error)       = chance.Over
	_ func(chance.Law, ratio.Ratio) (int, error)       = chance.Least
	_ func(chance.Law, chance.Law) (chance.Law, error) = chance.Both
	_ func(chance.Law) chance.Law                      = chance.Trim
)
