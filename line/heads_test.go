package line_test

import "foresight/line"

// The heads of the face, as the document gives them: another head doesn't
// compile here.
var (
	_ func([]line.Task) error                        = line.Check
	_ func([]int, int) error                         = line.Order
	_ func([]line.Task, []int) ([]int, error)        = line.Ends
	_ func([]line.Task, []int) (int, error)          = line.Cost
	_ func([]line.Task, []int) (int, error)          = line.Late
	_ func([]line.Task, []int) (int, error)          = line.Tardy
	_ func([]line.Task) ([]int, error)               = line.Smith
	_ func([]line.Task) ([]int, error)               = line.Jackson
	_ func([]line.Task) ([]int, error)               = line.Moore
	_ func([]line.Task, [][]int) ([]int, int, error) = line.Lawler

	_ = line.Task(struct{ Long, Weight, Due int }{})
)
