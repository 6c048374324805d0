package tests

import (
	"math"
	"testing"

	"loop.example/laplink/impl"
)

// midBox is an ok box with room on all sides.
var midBox = impl.ProbeBox{X: 3, Y: 5, Low: 2, High: 4, In: 10, Out: 20}

// probeNumbers are the places of all numbers of a box.
func probeNumbers(b *impl.ProbeBox) []*int {
	return []*int{&b.X, &b.Y, &b.Low, &b.High, &b.In, &b.Out}
}

// otherBox is midBox with something changed.
func otherBox(change func(b *impl.ProbeBox)) impl.ProbeBox {
	b := midBox
	change(&b)
	return b
}

// plainBoxOk says chapter 11 once more, word by word.
func plainBoxOk(b impl.ProbeBox) bool {
	return within(0, b.X, 15) && within(0, b.Y, 15) &&
		within(0, b.Low, 6) && within(0, b.High, 6) && !(b.Low > b.High) &&
		within(0, b.In, 10000) && within(0, b.Out, 10000) && !(b.In > b.Out)
}

// plainNear is whether two boxes come too near at a tick, by the definition.
func plainNear(a impl.ProbeBox, b impl.ProbeBox, tick int) bool {
	if !plainBoxOk(a) || !plainBoxOk(b) || !within(a.In, tick, a.Out) || !within(b.In, tick, b.Out) {
		return false
	}
	common := false
	for level := range 7 {
		common = common || within(a.Low, level, a.High) && within(b.Low, level, b.High)
	}
	return common && plainBeside(a.X, b.X) && plainBeside(a.Y, b.Y)
}

func plainBeside(a int, b int) bool {
	return a == b || a == b+1 || a == b-1
}

func TestProbeBoxOk(t *testing.T) {
	for name, c := range map[string]struct {
		box impl.ProbeBox
		ok  bool
	}{
		"ordinary":                {midBox, true},
		"nothing":                 {impl.ProbeBox{}, true},
		"greatest of all":         {impl.ProbeBox{X: 15, Y: 15, Low: 6, High: 6, In: 10000, Out: 10000}, true},
		"widest":                  {impl.ProbeBox{High: 6, Out: 10000}, true},
		"X of 0":                  {otherBox(func(b *impl.ProbeBox) { b.X = 0 }), true},
		"X below 0":               {otherBox(func(b *impl.ProbeBox) { b.X = -1 }), false},
		"X of 15":                 {otherBox(func(b *impl.ProbeBox) { b.X = 15 }), true},
		"X of 16":                 {otherBox(func(b *impl.ProbeBox) { b.X = 16 }), false},
		"Y of 0":                  {otherBox(func(b *impl.ProbeBox) { b.Y = 0 }), true},
		"Y below 0":               {otherBox(func(b *impl.ProbeBox) { b.Y = -1 }), false},
		"Y of 15":                 {otherBox(func(b *impl.ProbeBox) { b.Y = 15 }), true},
		"Y of 16":                 {otherBox(func(b *impl.ProbeBox) { b.Y = 16 }), false},
		"Low of 0":                {otherBox(func(b *impl.ProbeBox) { b.Low = 0 }), true},
		"Low below 0":             {otherBox(func(b *impl.ProbeBox) { b.Low = -1 }), false},
		"Low equal to High":       {otherBox(func(b *impl.ProbeBox) { b.Low = 4 }), true},
		"Low above High":          {otherBox(func(b *impl.ProbeBox) { b.Low = 5 }), false},
		"High of 6":               {otherBox(func(b *impl.ProbeBox) { b.High = 6 }), true},
		"High of 7":               {otherBox(func(b *impl.ProbeBox) { b.High = 7 }), false},
		"Low and High of 7":       {otherBox(func(b *impl.ProbeBox) { b.Low, b.High = 7, 7 }), false},
		"Low and High below 0":    {otherBox(func(b *impl.ProbeBox) { b.Low, b.High = -1, -1 }), false},
		"In of 0":                 {otherBox(func(b *impl.ProbeBox) { b.In = 0 }), true},
		"In below 0":              {otherBox(func(b *impl.ProbeBox) { b.In = -1 }), false},
		"In equal to Out":         {otherBox(func(b *impl.ProbeBox) { b.In = 20 }), true},
		"In above Out":            {otherBox(func(b *impl.ProbeBox) { b.In = 21 }), false},
		"Out of 10000":            {otherBox(func(b *impl.ProbeBox) { b.Out = 10000 }), true},
		"Out of 10001":            {otherBox(func(b *impl.ProbeBox) { b.Out = 10001 }), false},
		"In and Out of 10001":     {otherBox(func(b *impl.ProbeBox) { b.In, b.Out = 10001, 10001 }), false},
		"In and Out below 0":      {otherBox(func(b *impl.ProbeBox) { b.In, b.Out = -1, -1 }), false},
		"levels over all of int":  {otherBox(func(b *impl.ProbeBox) { b.Low, b.High = math.MinInt, math.MaxInt }), false},
		"ticks over all of int":   {otherBox(func(b *impl.ProbeBox) { b.In, b.Out = math.MinInt, math.MaxInt }), false},
		"levels turned round int": {otherBox(func(b *impl.ProbeBox) { b.Low, b.High = math.MaxInt, math.MinInt }), false},
		"ticks turned round int":  {otherBox(func(b *impl.ProbeBox) { b.In, b.Out = math.MaxInt, math.MinInt }), false},
	} {
		if got := impl.ProbeBoxOk(c.box); got != c.ok {
			t.Errorf("%s: %v", name, got)
		}
	}
}

func TestProbeBoxOkOfWildNumbers(t *testing.T) {
	for place := range 6 {
		for other := range 6 {
			for _, n := range wild {
				for _, m := range wild {
					b := midBox
					*probeNumbers(&b)[place] = n
					*probeNumbers(&b)[other] = m
					if got, want := impl.ProbeBoxOk(b), plainBoxOk(b); got != want {
						t.Errorf("%v: %v", b, got)
					}
				}
			}
		}
	}
}

// bothWays is ProbeClose, which must be the same told the other way round.
func bothWays(t *testing.T, a impl.ProbeBox, b impl.ProbeBox) (int, bool) {
	t.Helper()
	tick, near := impl.ProbeClose(a, b)
	if back, too := impl.ProbeClose(b, a); back != tick || too != near {
		t.Errorf("%v and %v: %d %v, and back %d %v", a, b, tick, near, back, too)
	}
	return tick, near
}

func TestProbeClose(t *testing.T) {
	for name, c := range map[string]struct {
		b    impl.ProbeBox
		tick int
		near bool
	}{
		"itself":                          {midBox, 10, true},
		"begins ahead":                    {otherBox(func(b *impl.ProbeBox) { b.In = 3 }), 10, true},
		"begins behind":                   {otherBox(func(b *impl.ProbeBox) { b.In = 14 }), 14, true},
		"within it":                       {otherBox(func(b *impl.ProbeBox) { b.In, b.Out = 12, 13 }), 12, true},
		"around it":                       {otherBox(func(b *impl.ProbeBox) { b.In, b.Out = 0, 10000 }), 10, true},
		"begins where it ends":            {otherBox(func(b *impl.ProbeBox) { b.In, b.Out = 20, 30 }), 20, true},
		"begins one tick behind its end":  {otherBox(func(b *impl.ProbeBox) { b.In, b.Out = 21, 30 }), 0, false},
		"ends where it begins":            {otherBox(func(b *impl.ProbeBox) { b.In, b.Out = 0, 10 }), 10, true},
		"ends one tick ahead of it":       {otherBox(func(b *impl.ProbeBox) { b.In, b.Out = 0, 9 }), 0, false},
		"the tick of its end alone":       {otherBox(func(b *impl.ProbeBox) { b.In = 20 }), 20, true},
		"long behind it":                  {otherBox(func(b *impl.ProbeBox) { b.In, b.Out = 10000, 10000 }), 0, false},
		"its highest level":               {otherBox(func(b *impl.ProbeBox) { b.Low, b.High = 4, 6 }), 10, true},
		"one above its highest level":     {otherBox(func(b *impl.ProbeBox) { b.Low, b.High = 5, 6 }), 0, false},
		"its lowest level":                {otherBox(func(b *impl.ProbeBox) { b.Low, b.High = 0, 2 }), 10, true},
		"one below its lowest level":      {otherBox(func(b *impl.ProbeBox) { b.Low, b.High = 0, 1 }), 0, false},
		"a level in the middle":           {otherBox(func(b *impl.ProbeBox) { b.Low, b.High = 3, 3 }), 10, true},
		"all levels":                      {otherBox(func(b *impl.ProbeBox) { b.Low, b.High = 0, 6 }), 10, true},
		"X one less":                      {otherBox(func(b *impl.ProbeBox) { b.X = 2 }), 10, true},
		"X one more":                      {otherBox(func(b *impl.ProbeBox) { b.X = 4 }), 10, true},
		"X two less":                      {otherBox(func(b *impl.ProbeBox) { b.X = 1 }), 0, false},
		"X two more":                      {otherBox(func(b *impl.ProbeBox) { b.X = 5 }), 0, false},
		"Y one less":                      {otherBox(func(b *impl.ProbeBox) { b.Y = 4 }), 10, true},
		"Y one more":                      {otherBox(func(b *impl.ProbeBox) { b.Y = 6 }), 10, true},
		"Y two less":                      {otherBox(func(b *impl.ProbeBox) { b.Y = 3 }), 0, false},
		"Y two more":                      {otherBox(func(b *impl.ProbeBox) { b.Y = 7 }), 0, false},
		"both one apart":                  {otherBox(func(b *impl.ProbeBox) { b.X, b.Y = 4, 4 }), 10, true},
		"X one and Y two apart":           {otherBox(func(b *impl.ProbeBox) { b.X, b.Y = 4, 7 }), 0, false},
		"X two and Y one apart":           {otherBox(func(b *impl.ProbeBox) { b.X, b.Y = 1, 4 }), 0, false},
		"X and Y turned":                  {otherBox(func(b *impl.ProbeBox) { b.X, b.Y = 5, 3 }), 0, false},
		"one level and one tick":          {impl.ProbeBox{X: 2, Y: 6, Low: 4, High: 4, In: 20, Out: 20}, 20, true},
		"not ok by X":                     {otherBox(func(b *impl.ProbeBox) { b.X = -1 }), 0, false},
		"not ok by Low, which is beside":  {otherBox(func(b *impl.ProbeBox) { b.Low = -1 }), 0, false},
		"not ok by High, which is beside": {otherBox(func(b *impl.ProbeBox) { b.High = 7 }), 0, false},
		"not ok by Low above High":        {otherBox(func(b *impl.ProbeBox) { b.Low, b.High = 4, 2 }), 0, false},
		"not ok by In, which is beside":   {otherBox(func(b *impl.ProbeBox) { b.In = -1 }), 0, false},
		"not ok by Out, which is beside":  {otherBox(func(b *impl.ProbeBox) { b.Out = 10001 }), 0, false},
		"not ok by In above Out":          {otherBox(func(b *impl.ProbeBox) { b.In, b.Out = 15, 14 }), 0, false},
	} {
		if tick, near := bothWays(t, midBox, c.b); tick != c.tick || near != c.near {
			t.Errorf("%s: %d %v", name, tick, near)
		}
	}
}

// Cells at the edges of the side have no cell beyond them, nor one on the
// other side of it.
func TestProbeCloseAtTheSides(t *testing.T) {
	for x := -2; x <= 17; x++ {
		for other := -2; other <= 17; other++ {
			near := within(0, x, 15) && within(0, other, 15) && plainBeside(x, other)
			if _, got := bothWays(t, impl.ProbeBox{X: x}, impl.ProbeBox{X: other}); got != near {
				t.Errorf("X %d and %d: %v", x, other, got)
			}
			if _, got := bothWays(t, impl.ProbeBox{Y: x}, impl.ProbeBox{Y: other}); got != near {
				t.Errorf("Y %d and %d: %v", x, other, got)
			}
		}
	}
	if tick, near := bothWays(t, impl.ProbeBox{Out: 10000}, impl.ProbeBox{In: 10000, Out: 10000}); tick != 10000 || !near {
		t.Errorf("the last tick: %d %v", tick, near)
	}
	if tick, near := bothWays(t, impl.ProbeBox{Out: 10000}, impl.ProbeBox{}); tick != 0 || !near {
		t.Errorf("the first tick: %d %v", tick, near)
	}
}

// Promise 8: every small box, those that are not ok too, against the definition.
func TestProbeCloseIsTheFirstTick(t *testing.T) {
	var boxes []impl.ProbeBox
	for code := range 3 * 3 * 4 * 4 {
		boxes = append(boxes, impl.ProbeBox{X: 3, Y: 3, Low: code % 3, High: code / 3 % 3, In: code / 9 % 4, Out: code / 36})
	}
	for _, a := range boxes {
		for _, b := range boxes {
			for cell := range 25 {
				b.X, b.Y = 1+cell%5, 1+cell/5
				first, found := 0, false
				for tick := 0; tick <= 3 && !found; tick++ {
					if plainNear(a, b, tick) {
						first, found = tick, true
					}
				}
				if tick, near := bothWays(t, a, b); tick != first || near != found {
					t.Fatalf("%v and %v: %d %v, not %d %v", a, b, tick, near, first, found)
				}
			}
		}
	}
}

func TestProbeCloseOfWildNumbers(t *testing.T) {
	for place := range 6 {
		for other := range 6 {
			for _, n := range wild {
				for _, m := range wild {
					a, b := midBox, midBox
					*probeNumbers(&a)[place] = n
					*probeNumbers(&b)[other] = m
					tick, near := bothWays(t, a, b)
					first := max(a.In, b.In)
					if want := plainNear(a, b, first); near != want || want && tick != first || !want && tick != 0 {
						t.Errorf("%v and %v: %d %v", a, b, tick, near)
					}
				}
			}
		}
	}
}

// Cells so far apart that their difference wraps round to a small one.
func TestProbeCloseOfFarCells(t *testing.T) {
	for _, x := range []int{math.MinInt, math.MinInt + 1, math.MaxInt - 1, math.MaxInt} {
		for _, other := range []int{math.MinInt, math.MinInt + 1, -1, 0, 15, 16, math.MaxInt - 1, math.MaxInt} {
			a, b := impl.ProbeBox{X: x}, impl.ProbeBox{X: other}
			if tick, near := bothWays(t, a, b); tick != 0 || near {
				t.Errorf("X %d and %d: %d %v", x, other, tick, near)
			}
			a, b = impl.ProbeBox{Y: x}, impl.ProbeBox{Y: other}
			if tick, near := bothWays(t, a, b); tick != 0 || near {
				t.Errorf("Y %d and %d: %d %v", x, other, tick, near)
			}
		}
	}
}
