package birth_test

import (
	"foresight/birth"
	"foresight/ratio"
)

// The heads of the face, as the document gives them: another head doesn't
// compile here.
var (
	_ func([]ratio.Ratio, []ratio.Ratio) ([]ratio.Ratio, error)     = birth.Steady
	_ func(ratio.Ratio, int) (ratio.Ratio, error)                   = birth.Lost
	_ func(ratio.Ratio, int) (birth.Queue, error)                   = birth.Wait
	_ func([]birth.Kind, int) ([]ratio.Ratio, []ratio.Ratio, error) = birth.Share

	_ = birth.Queue(struct{ Waits, Time, Number ratio.Ratio }{})
	_ = birth.Kind(struct {
		Load ratio.Ratio
		Size int
	}{})
)
