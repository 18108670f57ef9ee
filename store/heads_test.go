package store_test

import (
	"foresight/chance"
	"foresight/ratio"
	"foresight/store"
)

// The heads of the face, as the document gives them: another head doesn't
// compile here.
var (
	_ func(chance.Law, ratio.Ratio, ratio.Ratio) (int, ratio.Ratio, error) = store.News
	_ func(chance.Law, ratio.Ratio, ratio.Ratio, int) (ratio.Ratio, error) = store.Loss
	_ func(store.Shop) error                                               = store.Check
	_ func(store.Shop, int) ([]store.Rule, error)                          = store.Rules

	_ = store.Shop(struct {
		Law                      chance.Law
		Fixed, Each, Left, Short int
	}{})
	_ = store.Rule(struct {
		Low, High int
		Cost      []ratio.Ratio
	}{})
)
