package tests

import (
	"math"
	"slices"

	"loop.example/laplink/impl"
)

// wild are numbers at and beside each limit, and at both ends of int, where a
// difference wraps round.
var wild = []int{math.MinInt, math.MinInt + 1, -10000, -1, 0, 1, 2, 5, 6, 7, 15, 16, 40, 49, 50, 51, 9999, 10000, 10001, math.MaxInt - 1, math.MaxInt}

// threeSteps is an ok path; only its middle step may be held in.
func threeSteps() impl.FlyPath {
	return impl.FlyPath{
		Kind: impl.FlyKind{Quick: 3, Slow: 5},
		Steps: []impl.FlyStep{
			{X: 4, Y: 4, Low: 1, High: 2, From: 10, By: 20},
			{X: 5, Y: 4, Low: 2, High: 3, From: 12, By: 30, Hold: true},
			{X: 5, Y: 5, Low: 3, High: 4, From: 15, By: 60},
		},
		From: 20,
		By:   63,
	}
}

// zigzag is an ok path of so many steps.
func zigzag(steps int) impl.FlyPath {
	p := impl.FlyPath{Kind: impl.FlyKind{Quick: 1, Slow: 1}, By: impl.FlyMaxTick}
	for i := range steps {
		p.Steps = append(p.Steps, impl.FlyStep{X: i % 2, Y: 3, By: impl.FlyMaxTick})
	}
	return p
}

// withStep is the path with one step changed, in memory of its own.
func withStep(p impl.FlyPath, place int, change func(s *impl.FlyStep)) impl.FlyPath {
	p.Steps = slices.Clone(p.Steps)
	change(&p.Steps[place])
	return p
}

// ticksUp is so many ticks, each a number more than the one ahead of it.
func ticksUp(first int, count int) []int {
	var ticks []int
	for i := range count {
		ticks = append(ticks, first+i)
	}
	return ticks
}

// within is said without a difference, so it cannot wrap round.
func within(least int, n int, most int) bool {
	return !(n < least) && !(n > most)
}
