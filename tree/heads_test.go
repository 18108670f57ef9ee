package tree_test

import "foresight/tree"

// The heads of the face, as the document gives them: another head doesn't
// compile here.
var (
	_ func(int, []tree.Edge) error                       = tree.Check
	_ func(int, []tree.Edge, int) ([]int, error)         = tree.Far
	_ func(int, []tree.Edge, []int, int) (int, error)    = tree.Sum
	_ func(int, []tree.Edge, []int) (int, int, error)    = tree.Middle
	_ func(int, []tree.Edge, []int, int) ([]int, error)  = tree.Branches
	_ func(int, []tree.Edge) (int, int, error)           = tree.Center
	_ func(int, []tree.Edge) (a, b, long int, err error) = tree.Across

	_ = tree.Edge(struct{ A, B, Long int }{})
)
