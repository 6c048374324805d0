package tests

import (
	"math"
	"testing"

	"loop.example/laplink/impl"
)

func TestFlyKindOk(t *testing.T) {
	for _, c := range []struct {
		quick, slow int
		ok          bool
	}{
		{2, 3, true},
		{1, 1, true},
		{1, 50, true},
		{50, 50, true},
		{7, 7, true},
		{0, 0, false},
		{0, 5, false},
		{-1, 5, false},
		{1, 0, false},
		{8, 7, false},
		{1, 51, false},
		{50, 51, false},
		{51, 51, false},
		{51, 50, false},
		{math.MinInt, math.MaxInt, false},
		{math.MaxInt, math.MinInt, false},
		{math.MinInt, math.MinInt, false},
		{math.MaxInt, math.MaxInt, false},
		{1, math.MaxInt, false},
		{math.MinInt, 50, false},
	} {
		if got := impl.FlyKindOk(impl.FlyKind{Quick: c.quick, Slow: c.slow}); got != c.ok {
			t.Errorf("Quick %d, Slow %d: %v", c.quick, c.slow, got)
		}
	}
}

func TestFlyKindOkOfEverySmallKind(t *testing.T) {
	for quick := -2; quick <= 53; quick++ {
		for slow := -2; slow <= 53; slow++ {
			want := quick > 0 && slow < 51 && !(quick > slow)
			if got := impl.FlyKindOk(impl.FlyKind{Quick: quick, Slow: slow}); got != want {
				t.Errorf("Quick %d, Slow %d: %v", quick, slow, got)
			}
		}
	}
}
