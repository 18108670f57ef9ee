package renew_test

import (
	"foresight/chance"
	"foresight/ratio"
	"foresight/renew"
)

// The heads of the face, as the document gives them: another head doesn't
// compile here.
var (
	_ func(chance.Law, int) ([]ratio.Ratio, error)                         = renew.Comes
	_ func(chance.Law, int) ([]ratio.Ratio, error)                         = renew.Many
	_ func(chance.Law) (chance.Law, error)                                 = renew.Left
	_ func(chance.Law, ratio.Ratio, ratio.Ratio, int) (ratio.Ratio, error) = renew.Cost
	_ func(chance.Law, ratio.Ratio, ratio.Ratio) (int, ratio.Ratio, error) = renew.Age
)
