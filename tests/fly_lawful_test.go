package tests

import (
	"math"
	"reflect"
	"slices"
	"testing"

	"loop.example/laplink/impl"
)

func TestFlyLawful(t *testing.T) {
	for name, c := range map[string]struct {
		flight []int
		ok     bool
	}{
		"ordinary":               {[]int{10, 14, 20, 24}, true},
		"Quick in each step":     {[]int{10, 13, 17, 20}, true},
		"Slow in each step":      {[]int{10, 15, 20, 25}, true},
		"first too quick":        {[]int{10, 12, 20, 24}, false},
		"first too slow":         {[]int{10, 16, 20, 24}, false},
		"Hold too quick":         {[]int{10, 13, 15, 20}, false},
		"Hold quick":             {[]int{12, 15, 18, 22}, true},
		"Hold as slow as Slow":   {[]int{10, 13, 18, 22}, true},
		"Hold one above Slow":    {[]int{10, 13, 19, 22}, true},
		"Hold for long":          {[]int{10, 13, 60, 63}, true},
		"last too quick":         {[]int{10, 13, 20, 22}, false},
		"last too slow":          {[]int{10, 13, 20, 26}, false},
		"first ahead of From":    {[]int{9, 13, 20, 24}, false},
		"first at By":            {[]int{20, 24, 30, 34}, true},
		"first past By":          {[]int{21, 25, 30, 34}, false},
		"second at By":           {[]int{20, 25, 30, 34}, true},
		"third at By":            {[]int{10, 14, 60, 63}, true},
		"third past By":          {[]int{10, 14, 61, 63}, false},
		"end at From":            {[]int{10, 13, 16, 20}, true},
		"end ahead of From":      {[]int{10, 13, 16, 19}, false},
		"end at By":              {[]int{10, 13, 59, 63}, true},
		"end past By":            {[]int{10, 13, 60, 64}, false},
		"nil":                    {nil, false},
		"empty":                  {[]int{}, false},
		"one tick":               {[]int{10}, false},
		"one too few":            {[]int{10, 14, 20}, false},
		"one too many":           {[]int{10, 14, 20, 24, 28}, false},
		"the same tick all over": {[]int{20, 20, 20, 20}, false},
		"back at the end":        {[]int{10, 14, 24, 20}, false},
		"back while held":        {[]int{15, 19, 16, 20}, false},
		"all back":               {[]int{24, 20, 14, 10}, false},
		"all below 0":            {[]int{-14, -10, -4, -1}, false},
		"least and greatest":     {[]int{math.MinInt, math.MaxInt, math.MinInt, math.MaxInt}, false},
		"greatest and least":     {[]int{math.MaxInt, math.MinInt, math.MaxInt, math.MinInt}, false},
		"end at the greatest":    {[]int{10, 14, 20, math.MaxInt}, false},
		"begin at the least":     {[]int{math.MinInt, 14, 20, 24}, false},
	} {
		if got := impl.FlyLawful(threeSteps(), c.flight); got != c.ok {
			t.Errorf("%s: %v", name, got)
		}
	}
}

// A second step that is narrow, so that its own window, not a stay, decides.
func TestFlyLawfulAsksTheWindowOfEachStep(t *testing.T) {
	p := withStep(threeSteps(), 1, func(s *impl.FlyStep) { s.From, s.By = 14, 14 })
	for _, c := range []struct {
		tick int
		ok   bool
	}{{13, false}, {14, true}, {15, false}} {
		if got := impl.FlyLawful(p, []int{10, c.tick, 20, 24}); got != c.ok {
			t.Errorf("second step at %d: %v", c.tick, got)
		}
	}
	q := withStep(threeSteps(), 2, func(s *impl.FlyStep) { s.From = 20 })
	if impl.FlyLawful(q, []int{10, 14, 19, 23}) || !impl.FlyLawful(q, []int{10, 14, 20, 24}) {
		t.Error("From of the third step")
	}
}

// Only Hold of the step that is stayed in counts, not that of one beside it.
func TestFlyLawfulAsksHoldOfTheStepStayedIn(t *testing.T) {
	slow := [][]int{{10, 16, 20, 24}, {10, 14, 20, 24}, {10, 14, 18, 24}}
	for held := range 3 {
		p := threeSteps()
		for i := range p.Steps {
			p = withStep(p, i, func(s *impl.FlyStep) { s.Hold = i == held })
		}
		for stayed, flight := range slow {
			if got := impl.FlyLawful(p, flight); got != (held == stayed) {
				t.Errorf("Hold in %d, stayed in %d: %v", held, stayed, got)
			}
		}
	}
}

func TestFlyLawfulOfOneStep(t *testing.T) {
	p := impl.FlyPath{Kind: impl.FlyKind{Quick: 2, Slow: 4}, Steps: []impl.FlyStep{{From: 5, By: 6}}, From: 8, By: 10000}
	for _, c := range []struct {
		enter, leave int
		ok           bool
	}{{5, 8, true}, {5, 9, true}, {5, 7, false}, {5, 10, false}, {6, 8, true}, {6, 10, true}, {6, 11, false}, {4, 8, false}, {7, 9, false}} {
		if got := impl.FlyLawful(p, []int{c.enter, c.leave}); got != c.ok {
			t.Errorf("%d to %d: %v", c.enter, c.leave, got)
		}
	}
	p.Steps[0].Hold = true
	if !impl.FlyLawful(p, []int{5, 10000}) || impl.FlyLawful(p, []int{5, 10001}) || impl.FlyLawful(p, []int{5, 7}) {
		t.Error("Hold in the last step")
	}
	p.Steps[0].From, p.From = 0, 0
	if !impl.FlyLawful(p, []int{0, 10000}) {
		t.Error("Hold from the first tick of all to the last")
	}
}

func TestFlyLawfulOfManySteps(t *testing.T) {
	for _, c := range []struct {
		steps, first, ticks int
		ok                  bool
	}{{40, 0, 41, true}, {40, 9960, 41, true}, {40, 9961, 41, false}, {40, 0, 40, false}, {40, 0, 42, false}, {41, 0, 42, false}, {0, 0, 1, false}, {0, 0, 0, false}} {
		if got := impl.FlyLawful(zigzag(c.steps), ticksUp(c.first, c.ticks)); got != c.ok {
			t.Errorf("%d steps, %d ticks from %d on: %v", c.steps, c.ticks, c.first, got)
		}
	}
}

// A flight that would keep to a path keeps to none that is not ok.
func TestFlyLawfulAsksForAnOkPath(t *testing.T) {
	flight := []int{10, 14, 20, 24}
	for name, change := range map[string]func(p *impl.FlyPath){
		"kind":      func(p *impl.FlyPath) { p.Kind.Slow = 51 },
		"quick":     func(p *impl.FlyPath) { p.Kind.Quick = 0 },
		"same cell": func(p *impl.FlyPath) { p.Steps[1].X = 4 },
		"far cell":  func(p *impl.FlyPath) { p.Steps[2].Y = 6 },
		"levels":    func(p *impl.FlyPath) { p.Steps[1].High = 2 },
		"side":      func(p *impl.FlyPath) { p.Steps[0].X = -1 },
		"tick":      func(p *impl.FlyPath) { p.Steps[0].From = -1 },
		"end":       func(p *impl.FlyPath) { p.By = 10001 },
	} {
		p := threeSteps()
		change(&p)
		if impl.FlyLawful(p, flight) {
			t.Errorf("%s: it keeps to it", name)
		}
	}
	if !impl.FlyLawful(threeSteps(), flight) {
		t.Error("it does not keep to the path as it was")
	}
}

// Every flight of small ticks along small paths of two steps, held against
// chapter 3 said once more.
func TestFlyLawfulOfEverySmallFlight(t *testing.T) {
	for holds := range 4 {
		p := impl.FlyPath{
			Kind: impl.FlyKind{Quick: 2, Slow: 3},
			Steps: []impl.FlyStep{
				{From: 1, By: 4, Hold: holds%2 == 1},
				{X: 1, From: 2, By: 7, Hold: holds/2 == 1},
			},
			From: 5,
			By:   11,
		}
		for code := range 14 * 14 * 14 {
			flight := []int{code%14 - 1, code/14%14 - 1, code/196 - 1}
			if got, want := impl.FlyLawful(p, flight), plainLawful(p, flight); got != want {
				t.Errorf("Hold %v and %v, %v: %v", p.Steps[0].Hold, p.Steps[1].Hold, flight, got)
			}
		}
	}
}

func TestFlyLawfulOfWildNumbers(t *testing.T) {
	for place := range 4 {
		for _, n := range wild {
			flight := []int{10, 14, 20, 24}
			flight[place] = n
			if got, want := impl.FlyLawful(threeSteps(), flight), plainLawful(threeSteps(), flight); got != want {
				t.Errorf("%v: %v", flight, got)
			}
		}
	}
	for name, at := range pathNumbers() {
		for _, n := range wild {
			p := threeSteps()
			*at(&p) = n
			flight := []int{10, 14, 20, 24}
			if got, want := impl.FlyLawful(p, flight), plainLawful(p, flight); got != want {
				t.Errorf("%s is %d: %v", name, n, got)
			}
		}
	}
}

// plainLawful says chapter 3 once more, word by word.
func plainLawful(p impl.FlyPath, flight []int) bool {
	n := len(p.Steps)
	if !plainPathOk(p) || len(flight) != n+1 || !within(p.From, flight[n], p.By) {
		return false
	}
	for i, s := range p.Steps {
		if !within(s.From, flight[i], s.By) || flight[i+1] < flight[i]+p.Kind.Quick {
			return false
		}
		if !s.Hold && flight[i+1] > flight[i]+p.Kind.Slow {
			return false
		}
	}
	return true
}

func TestFlyLawfulWritesNothing(t *testing.T) {
	room := append(threeSteps().Steps, impl.FlyStep{X: 9}, impl.FlyStep{X: 8})
	p := threeSteps()
	p.Steps = room[:3]
	ticks := []int{10, 14, 20, 24, 77, 78}
	keptRoom, keptTicks := slices.Clone(room), slices.Clone(ticks)
	impl.FlyLawful(p, ticks[:4])
	impl.FlyWhere(ticks[:4], 15)
	if !reflect.DeepEqual(room, keptRoom) || !slices.Equal(ticks, keptTicks) {
		t.Errorf("steps are %v, ticks %v", room, ticks)
	}
}

func TestFlyWhere(t *testing.T) {
	least, most := math.MinInt, math.MaxInt
	for name, c := range map[string]struct {
		flight []int
		tick   int
		place  int
		ok     bool
	}{
		"ahead of it":             {[]int{5, 7, 9, 11}, 4, 0, false},
		"at the first":            {[]int{5, 7, 9, 11}, 5, 0, true},
		"up to the next":          {[]int{5, 7, 9, 11}, 6, 0, true},
		"at the next":             {[]int{5, 7, 9, 11}, 7, 1, true},
		"in the last":             {[]int{5, 7, 9, 11}, 10, 2, true},
		"when it has left":        {[]int{5, 7, 9, 11}, 11, 0, false},
		"behind it":               {[]int{5, 7, 9, 11}, 12, 0, false},
		"nil":                     {nil, 0, 0, false},
		"empty":                   {[]int{}, 0, 0, false},
		"one tick":                {[]int{5}, 5, 0, false},
		"a step of no tick":       {[]int{5, 5, 5, 8}, 5, 2, true},
		"all the same":            {[]int{5, 5, 5}, 5, 0, false},
		"descending":              {[]int{9, 7, 5}, 7, 0, false},
		"up, down and up":         {[]int{1, 4, 2, 9}, 5, 2, true},
		"the first of two":        {[]int{1, 4, 2, 9}, 3, 0, true},
		"the first of all":        {[]int{0, 10, 0, 10, 0, 10}, 3, 0, true},
		"down ahead of up":        {[]int{9, 1, 9}, 1, 1, true},
		"below 0":                 {[]int{-9, -5, -1}, -3, 1, true},
		"past the ticks":          {[]int{20000, 30000}, 25000, 0, true},
		"whole of int at first":   {[]int{least, most}, least, 0, true},
		"whole of int, middle":    {[]int{least, most}, 0, 0, true},
		"whole of int, ahead":     {[]int{least, most}, most - 1, 0, true},
		"whole of int at last":    {[]int{least, most}, most, 0, false},
		"whole of int, back":      {[]int{most, least}, 0, 0, false},
		"tick at the least":       {[]int{5, 7}, least, 0, false},
		"tick at the greatest":    {[]int{5, 7}, most, 0, false},
		"greatest behind all":     {[]int{5, most}, most, 0, false},
		"one ahead of the end":    {[]int{most - 1, most}, most - 1, 0, true},
		"the two least":           {[]int{least, least + 1}, least, 0, true},
		"behind the least":        {[]int{least, least + 1}, least + 1, 0, false},
		"more ticks than a path":  {ticksUp(0, 1001), 999, 999, true},
		"behind more than a path": {ticksUp(0, 1001), 1000, 0, false},
	} {
		if place, ok := impl.FlyWhere(c.flight, c.tick); place != c.place || ok != c.ok {
			t.Errorf("%s: %d %v", name, place, ok)
		}
	}
}

// Every list of up to four small ticks, held against chapter 3 said once more.
func TestFlyWhereOfEverySmallList(t *testing.T) {
	for length := range 5 {
		for code := range 5 * 5 * 5 * 5 {
			flight := []int{code % 5, code / 5 % 5, code / 25 % 5, code / 125}[:length]
			for tick := -1; tick <= 5; tick++ {
				place, ok := impl.FlyWhere(flight, tick)
				if want, found := plainWhere(flight, tick); place != want || ok != found {
					t.Fatalf("%v at %d: %d %v", flight, tick, place, ok)
				}
			}
		}
	}
}

// plainWhere looks from the last place to the first and keeps the last it finds.
func plainWhere(flight []int, tick int) (int, bool) {
	place, ok := 0, false
	for k := len(flight) - 2; k >= 0; k-- {
		if within(flight[k], tick, flight[k+1]) && tick != flight[k+1] {
			place, ok = k, true
		}
	}
	return place, ok
}

func TestFlyWhereIsInOneStepOfALawfulFlight(t *testing.T) {
	flight := []int{10, 13, 60, 63}
	if !impl.FlyLawful(threeSteps(), flight) {
		t.Fatal("it keeps to the path")
	}
	for tick := 10; tick < 63; tick++ {
		want := 1
		if tick < 13 {
			want = 0
		} else if tick >= 60 {
			want = 2
		}
		if place, ok := impl.FlyWhere(flight, tick); place != want || !ok {
			t.Errorf("at %d: %d %v", tick, place, ok)
		}
	}
}
