package ratio_test

import "foresight/ratio"

// The heads of the face, as the document gives them: another head doesn't
// compile here.
var (
	_ func(int) ratio.Ratio                               = ratio.Whole
	_ func(int, int) (ratio.Ratio, error)                 = ratio.Of
	_ func(ratio.Ratio, ratio.Ratio) ratio.Ratio          = ratio.Ratio.Add
	_ func(ratio.Ratio, ratio.Ratio) ratio.Ratio          = ratio.Ratio.Sub
	_ func(ratio.Ratio, ratio.Ratio) ratio.Ratio          = ratio.Ratio.Mul
	_ func(ratio.Ratio, ratio.Ratio) (ratio.Ratio, error) = ratio.Ratio.Div
	_ func(ratio.Ratio) int                               = ratio.Ratio.Sign
	_ func(ratio.Ratio, ratio.Ratio) int                  = ratio.Ratio.Cmp
	_ func(ratio.Ratio) (int, bool)                       = ratio.Ratio.Floor
	_ func(ratio.Ratio) string                            = ratio.Ratio.Text
	_ func(...ratio.Ratio) ratio.Ratio                    = ratio.Sum
	_ func([]ratio.Ratio) string                          = ratio.Words
	_ func(string) (ratio.Ratio, error)                   = ratio.Parse
)
