package shop_test

import "foresight/shop"

// The heads of the face, as the document gives them: another head doesn't
// compile here.
var (
	_ func([]shop.Two, []int) (int, error)              = shop.Flow
	_ func([]shop.Two) ([]int, error)                   = shop.Johnson
	_ func([]int, int) (int, []shop.Part, error)        = shop.McNaughton
	_ func([]int, int, []int) (int, []shop.Part, error) = shop.List
	_ func([]int) ([]int, error)                        = shop.Longest
	_ func([]int, int) ([]int, error)                   = shop.Hu

	_ = shop.Two(struct{ A, B int }{})
	_ = shop.Part(struct{ Machine, Job, From, To int }{})
)
