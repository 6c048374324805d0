package tests

import (
	"math"
	"reflect"
	"slices"
	"testing"

	"loop.example/laplink/impl"
)

func TestFlyLimits(t *testing.T) {
	got := []int{impl.FlyMaxSlow, impl.FlyMaxSide, impl.FlyMaxLevel, impl.FlyMaxTick, impl.FlyMaxSteps}
	if want := []int{50, 16, 6, 10000, 40}; !slices.Equal(got, want) {
		t.Errorf("limits are %v", got)
	}
}

func TestFlyPathOkOfOrdinaryPaths(t *testing.T) {
	if !impl.FlyPathOk(threeSteps()) {
		t.Error("three steps")
	}
	if impl.FlyPathOk(impl.FlyPath{}) {
		t.Error("nothing is ok")
	}
}

func TestFlyPathOkCountsSteps(t *testing.T) {
	for _, c := range []struct {
		steps int
		ok    bool
	}{{0, false}, {1, true}, {2, true}, {39, true}, {40, true}, {41, false}, {1000, false}} {
		if got := impl.FlyPathOk(zigzag(c.steps)); got != c.ok {
			t.Errorf("%d steps: %v", c.steps, got)
		}
	}
	p := threeSteps()
	p.Steps = []impl.FlyStep{}
	if impl.FlyPathOk(p) {
		t.Error("an empty list of steps is ok")
	}
}

func TestFlyPathOkAsksForAnOkKind(t *testing.T) {
	for _, k := range []impl.FlyKind{{}, {Quick: 0, Slow: 5}, {Quick: 3, Slow: 2}, {Quick: 1, Slow: 51}, {Quick: math.MinInt, Slow: 1}} {
		p := threeSteps()
		p.Kind = k
		if impl.FlyPathOk(p) {
			t.Errorf("kind %v is ok", k)
		}
	}
}

// Every limit of a step, met exactly and by one more, at each place of a path.
func TestFlyPathOkBoundsEachStep(t *testing.T) {
	for name, c := range map[string]struct {
		s  impl.FlyStep
		ok bool
	}{
		"least of all":         {impl.FlyStep{}, true},
		"greatest of all":      {impl.FlyStep{X: 15, Y: 15, Low: 6, High: 6, From: 10000, By: 10000}, true},
		"widest":               {impl.FlyStep{Low: 0, High: 6, From: 0, By: 10000}, true},
		"X below 0":            {impl.FlyStep{X: -1}, false},
		"X past the side":      {impl.FlyStep{X: 16}, false},
		"Y below 0":            {impl.FlyStep{Y: -1}, false},
		"Y past the side":      {impl.FlyStep{Y: 16}, false},
		"Low below 0":          {impl.FlyStep{Low: -1}, false},
		"High past the levels": {impl.FlyStep{High: 7}, false},
		"Low above High":       {impl.FlyStep{Low: 3, High: 2}, false},
		"both levels past":     {impl.FlyStep{Low: 7, High: 7}, false},
		"From below 0":         {impl.FlyStep{From: -1}, false},
		"By past the ticks":    {impl.FlyStep{By: 10001}, false},
		"From above By":        {impl.FlyStep{From: 5, By: 4}, false},
		"both ticks past":      {impl.FlyStep{From: 10001, By: 10001}, false},
	} {
		for _, p := range aroundStep(c.s) {
			if got := impl.FlyPathOk(p); got != c.ok {
				t.Errorf("%s, %d steps: %v", name, len(p.Steps), got)
			}
			for i := range p.Steps {
				p.Steps[i].Hold = !p.Steps[i].Hold
			}
			if got := impl.FlyPathOk(p); got != c.ok {
				t.Errorf("%s, %d steps, Hold: %v", name, len(p.Steps), got)
			}
		}
	}
}

// aroundStep are paths with the step alone, first, last and in the middle, all
// else in them being ok.
func aroundStep(s impl.FlyStep) []impl.FlyPath {
	beside := impl.FlyStep{X: min(max(s.X, 0), 15), Y: min(max(s.Y, 0), 15), High: 6, By: 10000}
	if beside.X == 15 && s.X == 15 {
		beside.X = 14
	} else if beside.X == s.X {
		beside.X++
	}
	var all []impl.FlyPath
	for _, steps := range [][]impl.FlyStep{{s}, {s, beside}, {beside, s}, {beside, s, beside}} {
		all = append(all, impl.FlyPath{Kind: impl.FlyKind{Quick: 1, Slow: 1}, Steps: steps, By: 10000})
	}
	return all
}

func TestFlyPathOkBoundsTheEnd(t *testing.T) {
	for _, c := range []struct {
		from, by int
		ok       bool
	}{
		{0, 0, true}, {0, 10000, true}, {10000, 10000, true}, {9, 9, true},
		{-1, 0, false}, {-1, -1, false}, {0, 10001, false}, {10001, 10001, false}, {9, 8, false},
		{math.MinInt, math.MaxInt, false}, {math.MaxInt, math.MinInt, false},
	} {
		p := threeSteps()
		p.From, p.By = c.from, c.by
		if got := impl.FlyPathOk(p); got != c.ok {
			t.Errorf("From %d, By %d: %v", c.from, c.by, got)
		}
	}
}

// Where a second step may lie: each of the eight cells beside, no other.
func TestFlyPathOkOfTwoCells(t *testing.T) {
	for x := range 16 {
		for y := range 16 {
			apart := max(x-7, 7-x, y-8, 8-y)
			p := zigzag(2)
			p.Steps[0].X, p.Steps[0].Y = 7, 8
			p.Steps[1].X, p.Steps[1].Y = x, y
			if got := impl.FlyPathOk(p); got != (apart == 1) {
				t.Errorf("from 7 8 to %d %d: %v", x, y, got)
			}
		}
	}
}

// Which levels two steps behind each other may have: all pairs of them.
func TestFlyPathOkOfTwoLevels(t *testing.T) {
	for code := range 7 * 7 * 7 * 7 {
		a, b, c, d := code%7, code/7%7, code/49%7, code/343
		if a > b || c > d {
			continue
		}
		shared := false
		for level := range 7 {
			shared = shared || within(a, level, b) && within(c, level, d)
		}
		p := zigzag(2)
		p.Steps[0].Low, p.Steps[0].High = a, b
		p.Steps[1].Low, p.Steps[1].High = c, d
		if got := impl.FlyPathOk(p); got != shared {
			t.Errorf("levels %d to %d, then %d to %d: %v", a, b, c, d, got)
		}
	}
}

// Each step is held against the one ahead of it, wherever they stand, and
// against no other.
func TestFlyPathOkLooksAtEachPair(t *testing.T) {
	for place := 1; place < 40; place++ {
		same := withStep(zigzag(40), place, func(s *impl.FlyStep) { s.X = 1 - s.X })
		if impl.FlyPathOk(same) {
			t.Errorf("place %d in the cell of the one ahead", place)
		}
		far := withStep(zigzag(40), place, func(s *impl.FlyStep) { s.Y = 5 })
		if impl.FlyPathOk(far) {
			t.Errorf("place %d two cells off", place)
		}
		high := withStep(zigzag(40), place, func(s *impl.FlyStep) { s.Low, s.High = 1, 1 })
		if impl.FlyPathOk(high) {
			t.Errorf("place %d on another level", place)
		}
	}
	climb := threeSteps()
	if climb.Steps[0].High >= climb.Steps[2].Low || !impl.FlyPathOk(climb) {
		t.Error("steps that do not follow each other need no level in common")
	}
	if !impl.FlyPathOk(zigzag(3)) {
		t.Error("a cell may come again")
	}
}

func TestFlyPathOkNeedsNoFlight(t *testing.T) {
	p := withStep(threeSteps(), 0, func(s *impl.FlyStep) { s.From, s.By = 9000, 9000 })
	if !impl.FlyPathOk(p) {
		t.Error("a path without a flight is not ok")
	}
}

// Each number of a path in turn is made wild, and two Xs and Ys at once, so
// that their difference wraps round.
func TestFlyPathOkOfWildNumbers(t *testing.T) {
	for name, at := range pathNumbers() {
		for _, n := range wild {
			p := threeSteps()
			*at(&p) = n
			if got, want := impl.FlyPathOk(p), plainPathOk(p); got != want {
				t.Errorf("%s is %d: %v", name, n, got)
			}
		}
	}
	for _, a := range wild {
		for _, b := range wild {
			p := zigzag(2)
			p.Steps[0].X, p.Steps[1].X = a, b
			q := zigzag(2)
			q.Steps[0].Y, q.Steps[1].Y = a, b
			for _, r := range []impl.FlyPath{p, q} {
				if got, want := impl.FlyPathOk(r), plainPathOk(r); got != want {
					t.Errorf("%v: %v", r, got)
				}
			}
		}
	}
}

// pathNumbers are the places of all numbers of a path of three steps.
func pathNumbers() map[string]func(p *impl.FlyPath) *int {
	all := map[string]func(p *impl.FlyPath) *int{
		"Quick": func(p *impl.FlyPath) *int { return &p.Kind.Quick },
		"Slow":  func(p *impl.FlyPath) *int { return &p.Kind.Slow },
		"From":  func(p *impl.FlyPath) *int { return &p.From },
		"By":    func(p *impl.FlyPath) *int { return &p.By },
	}
	for i, place := range []string{"first", "second", "third"} {
		all[place+" X"] = func(p *impl.FlyPath) *int { return &p.Steps[i].X }
		all[place+" Y"] = func(p *impl.FlyPath) *int { return &p.Steps[i].Y }
		all[place+" Low"] = func(p *impl.FlyPath) *int { return &p.Steps[i].Low }
		all[place+" High"] = func(p *impl.FlyPath) *int { return &p.Steps[i].High }
		all[place+" From"] = func(p *impl.FlyPath) *int { return &p.Steps[i].From }
		all[place+" By"] = func(p *impl.FlyPath) *int { return &p.Steps[i].By }
	}
	return all
}

// plainPathOk says chapter 2 once more, word by word.
func plainPathOk(p impl.FlyPath) bool {
	ok := within(1, p.Kind.Quick, p.Kind.Slow) && within(1, p.Kind.Slow, 50)
	ok = ok && within(1, len(p.Steps), 40)
	ok = ok && within(0, p.From, p.By) && within(0, p.By, 10000)
	for i, s := range p.Steps {
		ok = ok && within(0, s.X, 15) && within(0, s.Y, 15)
		ok = ok && within(0, s.Low, s.High) && within(0, s.High, 6)
		ok = ok && within(0, s.From, s.By) && within(0, s.By, 10000)
		if i > 0 && ok {
			a := p.Steps[i-1]
			ok = max(s.X-a.X, a.X-s.X, s.Y-a.Y, a.Y-s.Y) == 1 && max(a.Low, s.Low) <= min(a.High, s.High)
		}
	}
	return ok
}

func TestFlyPathOkWritesNothing(t *testing.T) {
	room := append(threeSteps().Steps, impl.FlyStep{X: 9}, impl.FlyStep{X: 8})
	kept := slices.Clone(room)
	p := threeSteps()
	p.Steps = room[:3]
	impl.FlyPathOk(p)
	if !reflect.DeepEqual(room, kept) {
		t.Errorf("steps are %v", room)
	}
}
