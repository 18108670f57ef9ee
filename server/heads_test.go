package server_test

import (
	"foresight/chance"
	"foresight/ratio"
	"foresight/server"
)

// The heads of the face, as the document gives them: another head doesn't
// compile here.
var (
	_ func([]server.Class) (ratio.Ratio, error)          = server.Load
	_ func([]server.Class) (ratio.Ratio, error)          = server.Wait
	_ func([]server.Class) ([]ratio.Ratio, error)        = server.Waits
	_ func([]server.Class) ([]ratio.Ratio, error)        = server.Stays
	_ func([]server.Class, []ratio.Ratio) ([]int, error) = server.Best

	_ = server.Class(struct {
		Rate ratio.Ratio
		Law  chance.Law
	}{})
)
