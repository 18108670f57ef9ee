package path_test

import "foresight/path"

// The heads of the face, as the document gives them: another head doesn't
// compile here.
var (
	_ func([]path.Job) error                      = path.Check
	_ func([]path.Job) ([]int, error)             = path.Waits
	_ func([]path.Job, int) ([]int, error)        = path.Many
	_ func([]path.Job, int) ([]path.Piece, error) = path.Run
	_ func([]path.Job, []path.Piece) []int        = path.Ends
	_ func([]path.Job, []path.Piece, int) int     = path.Work

	_ = path.Job(struct{ At, Size, Class int }{})
	_ = path.Piece(struct{ Job, From, To int }{})

	// An array of another length doesn't compile either: the rules are 1 to 6.
	_ [1]int = [path.First]int{}
	_ [2]int = [path.Last]int{}
	_ [3]int = [path.Short]int{}
	_ [4]int = [path.Class]int{}
	_ [5]int = [path.Ahead]int{}
	_ [6]int = [path.Shortest]int{}
)
