package tests

import (
	"math"
	"reflect"
	"slices"
	"testing"

	"loop.example/laplink/impl"
)

// spanOf is a span, short enough for tables.
func spanOf(low int, high int) impl.FlySpan {
	return impl.FlySpan{Low: low, High: high}
}

// spanCase is a path and what FlySpans says of it; no spans: there is no flight.
type spanCase struct {
	path  impl.FlyPath
	spans []impl.FlySpan
}

// changed is threeSteps with a change.
func changed(change func(p *impl.FlyPath)) impl.FlyPath {
	p := threeSteps()
	change(&p)
	return p
}

// oneStep is a path of one step alone.
func oneStep(quick int, slow int, step impl.FlySpan, end impl.FlySpan, hold bool) impl.FlyPath {
	return impl.FlyPath{
		Kind:  impl.FlyKind{Quick: quick, Slow: slow},
		Steps: []impl.FlyStep{{X: 7, Y: 8, Low: 2, High: 4, From: step.Low, By: step.High, Hold: hold}},
		From:  end.Low,
		By:    end.High,
	}
}

func spanCases() map[string]spanCase {
	type list = []impl.FlySpan
	whole := spanOf(0, impl.FlyMaxTick)
	noHold := func(p *impl.FlyPath) { p.Steps[1].Hold = false }
	return map[string]spanCase{
		"ordinary, held in the middle": {threeSteps(), list{spanOf(10, 20), spanOf(13, 25), spanOf(16, 60), spanOf(20, 63)}},
		"nobody may hold":              {changed(noHold), list{spanOf(10, 20), spanOf(13, 25), spanOf(16, 30), spanOf(20, 35)}},
		"held in the first": {changed(func(p *impl.FlyPath) { noHold(p); p.Steps[0].Hold = true }),
			list{spanOf(10, 20), spanOf(13, 30), spanOf(16, 35), spanOf(20, 40)}},
		"held in the last": {changed(func(p *impl.FlyPath) { noHold(p); p.Steps[2].Hold = true }),
			list{spanOf(10, 20), spanOf(13, 25), spanOf(16, 30), spanOf(20, 63)}},
		"end as wide as can be": {changed(func(p *impl.FlyPath) { p.From, p.By = 0, 10000 }),
			list{spanOf(10, 20), spanOf(13, 25), spanOf(16, 60), spanOf(19, 65)}},
		"end just what is left": {changed(func(p *impl.FlyPath) { p.From, p.By = 19, 65 }),
			list{spanOf(10, 20), spanOf(13, 25), spanOf(16, 60), spanOf(19, 65)}},
		"end one tick late": {changed(func(p *impl.FlyPath) { p.From, p.By = 65, 65 }),
			list{spanOf(10, 20), spanOf(13, 25), spanOf(60, 60), spanOf(65, 65)}},
		"end past what is left": {changed(func(p *impl.FlyPath) { p.From, p.By = 66, 70 }), nil},
		"end one tick early": {changed(func(p *impl.FlyPath) { p.From, p.By = 0, 19 }),
			list{spanOf(10, 10), spanOf(13, 13), spanOf(16, 16), spanOf(19, 19)}},
		"end ahead of what is left": {changed(func(p *impl.FlyPath) { p.From, p.By = 0, 18 }), nil},
		"end pulls all of it back": {changed(func(p *impl.FlyPath) { p.From, p.By = 0, 22 }),
			list{spanOf(10, 13), spanOf(13, 16), spanOf(16, 19), spanOf(19, 22)}},
		"end pushes up to the hold": {changed(func(p *impl.FlyPath) { p.From, p.By = 50, 51 }),
			list{spanOf(10, 20), spanOf(13, 25), spanOf(45, 48), spanOf(50, 51)}},
		"end pushes all, without hold": {changed(func(p *impl.FlyPath) { noHold(p); p.From, p.By = 34, 51 }),
			list{spanOf(19, 20), spanOf(24, 25), spanOf(29, 30), spanOf(34, 35)}},
		"middle of one tick": {changed(func(p *impl.FlyPath) { p.Steps[1].From, p.Steps[1].By = 20, 20 }),
			list{spanOf(15, 17), spanOf(20, 20), spanOf(23, 60), spanOf(26, 63)}},
		"middle of one tick, no hold": {changed(func(p *impl.FlyPath) { noHold(p); p.Steps[1].From, p.Steps[1].By = 20, 20 }),
			list{spanOf(15, 17), spanOf(20, 20), spanOf(23, 25), spanOf(26, 30)}},
		"middle just reached late":  {changed(func(p *impl.FlyPath) { p.Steps[1].From = 25 }), list{spanOf(20, 20), spanOf(25, 25), spanOf(28, 60), spanOf(31, 63)}},
		"middle not reached":        {changed(func(p *impl.FlyPath) { p.Steps[1].From = 26 }), nil},
		"middle just reached early": {changed(func(p *impl.FlyPath) { p.Steps[1].By = 13 }), list{spanOf(10, 10), spanOf(13, 13), spanOf(16, 60), spanOf(20, 63)}},
		"middle gone by then":       {changed(func(p *impl.FlyPath) { p.Steps[1].By = 12 }), nil},
		// Without a stop at the empty span, those behind it would look as if they had ticks.
		"gone by then, wide behind it": {impl.FlyPath{
			Kind:  impl.FlyKind{Quick: 1, Slow: 50},
			Steps: []impl.FlyStep{{From: 9, By: 9}, {X: 1, By: 9}, {X: 2, By: 9000}},
			By:    9000,
		}, nil},
		"first gone, the rest wide": {impl.FlyPath{
			Kind:  impl.FlyKind{Quick: 1, Slow: 50},
			Steps: []impl.FlyStep{{}, {X: 1, From: 60, By: 60}, {X: 2, By: 9000}},
			By:    9000,
		}, nil},
		"one step":                      {oneStep(2, 4, spanOf(5, 9), whole, false), list{spanOf(5, 9), spanOf(7, 13)}},
		"one step, held":                {oneStep(2, 4, spanOf(5, 9), whole, true), list{spanOf(5, 9), spanOf(7, 10000)}},
		"one step, narrow end":          {oneStep(2, 4, spanOf(5, 9), spanOf(8, 9), false), list{spanOf(5, 7), spanOf(8, 9)}},
		"one step, held, narrow end":    {oneStep(2, 4, spanOf(5, 9), spanOf(90, 99), true), list{spanOf(5, 9), spanOf(90, 99)}},
		"one step, held, early end":     {oneStep(2, 4, spanOf(5, 9), spanOf(0, 7), true), list{spanOf(5, 5), spanOf(7, 7)}},
		"one step, held, no end":        {oneStep(2, 4, spanOf(5, 9), spanOf(0, 6), true), nil},
		"one step, late end":            {oneStep(2, 4, spanOf(5, 9), spanOf(13, 20), false), list{spanOf(9, 9), spanOf(13, 13)}},
		"one step, too late an end":     {oneStep(2, 4, spanOf(5, 9), spanOf(14, 20), false), nil},
		"one step, all ticks":           {oneStep(1, 1, whole, whole, false), list{spanOf(0, 9999), spanOf(1, 10000)}},
		"one step, all ticks, held":     {oneStep(1, 1, whole, whole, true), list{spanOf(0, 9999), spanOf(1, 10000)}},
		"one step, the longest stay":    {oneStep(50, 50, spanOf(0, 0), whole, false), list{spanOf(0, 0), spanOf(50, 50)}},
		"one step, from first to last":  {oneStep(1, 2, spanOf(0, 0), spanOf(10000, 10000), true), list{spanOf(0, 0), spanOf(10000, 10000)}},
		"one step, the same not held":   {oneStep(1, 2, spanOf(0, 0), spanOf(10000, 10000), false), nil},
		"one step, at the last tick":    {oneStep(1, 50, spanOf(10000, 10000), whole, true), nil},
		"one step, Quick = Slow":        {oneStep(3, 3, spanOf(5, 9), spanOf(0, 11), false), list{spanOf(5, 8), spanOf(8, 11)}},
		"one step, Quick = Slow, late":  {oneStep(3, 3, spanOf(5, 9), spanOf(9, 99), false), list{spanOf(6, 9), spanOf(9, 12)}},
		"forty steps":                   {zigzag(40), upSpans(41, 0, 9960)},
		"forty steps from one tick":     {withStep(zigzag(40), 0, func(s *impl.FlyStep) { s.By = 0 }), upSpans(41, 0, 0)},
		"forty steps, pinned in one":    {withStep(zigzag(40), 39, func(s *impl.FlyStep) { s.From, s.By = 100, 100 }), upSpans(41, 61, 61)},
		"forty steps, pinned too early": {withStep(zigzag(40), 39, func(s *impl.FlyStep) { s.From, s.By = 38, 38 }), nil},
	}
}

// upSpans are spans, each a tick later than the one ahead of it.
func upSpans(count int, low int, high int) []impl.FlySpan {
	var spans []impl.FlySpan
	for i := range count {
		spans = append(spans, spanOf(low+i, high+i))
	}
	return spans
}

func lowsAndHighs(spans []impl.FlySpan) ([]int, []int) {
	var lows, highs []int
	for _, s := range spans {
		lows, highs = append(lows, s.Low), append(highs, s.High)
	}
	return lows, highs
}

// wantSpans holds all three functions of chapter 4 against these spans.
func wantSpans(t *testing.T, name string, p impl.FlyPath, want []impl.FlySpan) {
	t.Helper()
	spans, ok := impl.FlySpans(p)
	if ok != (len(want) > 0) || !slices.Equal(spans, want) {
		t.Errorf("%s: FlySpans is %v %v, not %v", name, spans, ok, want)
	}
	lows, highs := lowsAndHighs(want)
	if got := impl.FlyFirst(p); !slices.Equal(got, lows) {
		t.Errorf("%s: FlyFirst is %v, not %v", name, got, lows)
	}
	if got := impl.FlyLast(p); !slices.Equal(got, highs) {
		t.Errorf("%s: FlyLast is %v, not %v", name, got, highs)
	}
}

func TestFlySpans(t *testing.T) {
	for name, c := range spanCases() {
		if !impl.FlyPathOk(c.path) {
			t.Errorf("%s: the path is not ok", name)
		}
		wantSpans(t, name, c.path, c.spans)
	}
}

func TestFlySpansOfAPathThatIsNotOk(t *testing.T) {
	for name, change := range map[string]func(p *impl.FlyPath){
		"no kind":      func(p *impl.FlyPath) { p.Kind = impl.FlyKind{} },
		"slow kind":    func(p *impl.FlyPath) { p.Kind.Slow = 51 },
		"quick of 0":   func(p *impl.FlyPath) { p.Kind.Quick = 0 },
		"Quick > Slow": func(p *impl.FlyPath) { p.Kind.Quick = 6 },
		"no steps":     func(p *impl.FlyPath) { p.Steps = nil },
		"same cell":    func(p *impl.FlyPath) { p.Steps[1].X = 4 },
		"far cell":     func(p *impl.FlyPath) { p.Steps[2].Y = 6 },
		"levels":       func(p *impl.FlyPath) { p.Steps[1].High = 2 },
		"side":         func(p *impl.FlyPath) { p.Steps[0].X = -1 },
		"tick":         func(p *impl.FlyPath) { p.Steps[0].From = -1 },
		"step's By":    func(p *impl.FlyPath) { p.Steps[2].By = 10001 },
		"end":          func(p *impl.FlyPath) { p.By = 10001 },
		"end's From":   func(p *impl.FlyPath) { p.From = -1 },
		"end turned":   func(p *impl.FlyPath) { p.From, p.By = 63, 20 },
	} {
		wantSpans(t, name, changed(change), nil)
	}
	wantSpans(t, "nothing", impl.FlyPath{}, nil)
	wantSpans(t, "41 steps", zigzag(41), nil)
}

// smallPaths are all paths of one step and of two with ticks from 0 to 4, of
// some kinds, held in or not.
func smallPaths(each func(p impl.FlyPath)) {
	var windows []impl.FlySpan
	for low := range 5 {
		for high := low; high < 5; high++ {
			windows = append(windows, spanOf(low, high))
		}
	}
	kinds := []impl.FlyKind{{Quick: 1, Slow: 1}, {Quick: 1, Slow: 2}, {Quick: 2, Slow: 2}, {Quick: 2, Slow: 3}, {Quick: 3, Slow: 50}}
	for _, k := range kinds {
		for holds := range 4 {
			for _, a := range windows {
				for _, b := range windows {
					first := impl.FlyStep{X: 1, Y: 1, Low: 1, High: 2, From: a.Low, By: a.High, Hold: holds%2 == 1}
					if holds < 2 {
						each(impl.FlyPath{Kind: k, Steps: []impl.FlyStep{first}, From: b.Low, By: b.High})
					}
					second := impl.FlyStep{X: 2, Y: 2, Low: 2, High: 3, From: b.Low, By: b.High, Hold: holds/2 == 1}
					for _, c := range windows {
						each(impl.FlyPath{Kind: k, Steps: []impl.FlyStep{first, second}, From: c.Low, By: c.High})
					}
				}
			}
		}
	}
}

// longerPaths are some paths of four steps with ticks from 0 to 11.
func longerPaths(each func(p impl.FlyPath)) {
	dice := uint32(1)
	roll := func(below int) int {
		dice = dice*1664525 + 1013904223
		return int(dice>>16) % below
	}
	for range 3000 {
		quick := 1 + roll(3)
		p := impl.FlyPath{Kind: impl.FlyKind{Quick: quick, Slow: quick + roll(2)}}
		for place := range 4 {
			from := roll(4) + place
			step := impl.FlyStep{X: place, Y: 1, Low: 1, High: 1 + roll(3), From: from, By: min(11, from+roll(6)), Hold: roll(4) == 0}
			p.Steps = append(p.Steps, step)
		}
		p.From = roll(8)
		p.By = min(11, p.From+roll(8))
		each(p)
	}
}

// plainFlights are all flights that keep to a path, tried one by one.
func plainFlights(p impl.FlyPath, begun []int) [][]int {
	n := len(p.Steps)
	if len(begun) == n+1 {
		if plainLawful(p, begun) {
			return [][]int{slices.Clone(begun)}
		}
		return nil
	}
	from, by := p.From, p.By
	if len(begun) < n {
		from, by = p.Steps[len(begun)].From, p.Steps[len(begun)].By
	}
	var all [][]int
	for tick := from; tick <= by; tick++ {
		all = append(all, plainFlights(p, append(begun, tick))...)
	}
	return all
}

// plainSpans is the least and the greatest of each tick of these flights.
func plainSpans(flights [][]int) []impl.FlySpan {
	var spans []impl.FlySpan
	for _, flight := range flights {
		for place, tick := range flight {
			if place == len(spans) {
				spans = append(spans, spanOf(tick, tick))
			}
			spans[place].Low, spans[place].High = min(spans[place].Low, tick), max(spans[place].High, tick)
		}
	}
	return spans
}

func TestFlySpansOfEverySmallPath(t *testing.T) {
	some, none := 0, 0
	try := func(p impl.FlyPath) {
		flights := plainFlights(p, nil)
		if len(flights) > 0 {
			some++
		} else {
			none++
		}
		spans, ok := impl.FlySpans(p)
		if ok != (len(flights) > 0) || !slices.Equal(spans, plainSpans(flights)) {
			t.Errorf("%v: %v %v, not %v", p, spans, ok, plainSpans(flights))
		}
	}
	smallPaths(try)
	longerPaths(try)
	if some < 1000 || none < 1000 {
		t.Errorf("paths with a flight: %d, without: %d", some, none)
	}
}

// Promise 2.
func TestFlyFirstAndFlyLastKeepToThePath(t *testing.T) {
	try := func(p impl.FlyPath) {
		first, last := impl.FlyFirst(p), impl.FlyLast(p)
		flights := plainFlights(p, nil)
		if len(flights) == 0 {
			if len(first) != 0 || len(last) != 0 {
				t.Errorf("%v: there is no flight, but %v and %v", p, first, last)
			}
			return
		}
		if !plainLawful(p, first) || !plainLawful(p, last) {
			t.Fatalf("%v: %v or %v does not keep to it", p, first, last)
		}
		for _, flight := range flights {
			for place, tick := range flight {
				if !within(first[place], tick, last[place]) {
					t.Errorf("%v: %v is not between %v and %v", p, flight, first, last)
				}
			}
		}
	}
	smallPaths(try)
	longerPaths(try)
}

// Promise 3, of spans.
func TestFlySpansAreTight(t *testing.T) {
	try := func(p impl.FlyPath) {
		spans, _ := impl.FlySpans(p)
		flights := plainFlights(p, nil)
		for place, s := range spans {
			for tick := s.Low; tick <= s.High; tick++ {
				if !slices.ContainsFunc(flights, func(flight []int) bool { return flight[place] == tick }) {
					t.Errorf("%v: no flight has %d at %d", p, tick, place)
				}
			}
		}
	}
	smallPaths(try)
	longerPaths(try)
}

func TestFlySpansOfWildNumbers(t *testing.T) {
	for name, at := range pathNumbers() {
		for _, n := range wild {
			p := threeSteps()
			*at(&p) = n
			spans, ok := impl.FlySpans(p)
			first, last := impl.FlyFirst(p), impl.FlyLast(p)
			if ok && (!plainLawful(p, first) || !plainLawful(p, last) || len(spans) != 4) {
				t.Errorf("%s is %d: %v", name, n, spans)
			}
			if !ok && len(spans)+len(first)+len(last) > 0 {
				t.Errorf("%s is %d: false, and %v, %v, %v", name, n, spans, first, last)
			}
			if ok && !plainPathOk(p) {
				t.Errorf("%s is %d: true", name, n)
			}
		}
	}
	most := impl.FlyPath{Kind: impl.FlyKind{Quick: math.MaxInt, Slow: math.MaxInt}, Steps: []impl.FlyStep{{From: math.MinInt, By: math.MaxInt}}, From: math.MinInt, By: math.MaxInt}
	wantSpans(t, "all of int", most, nil)
}

func TestFlySpansWriteAndKeepNothing(t *testing.T) {
	room := append(threeSteps().Steps, impl.FlyStep{X: 9}, impl.FlyStep{X: 8})
	kept := slices.Clone(room)
	p := threeSteps()
	p.Steps = room[:3]
	spans, _ := impl.FlySpans(p)
	first, last := impl.FlyFirst(p), impl.FlyLast(p)
	wantSpans(t, "once more", p, []impl.FlySpan{spanOf(10, 20), spanOf(13, 25), spanOf(16, 60), spanOf(20, 63)})
	for i := range spans[:cap(spans)] {
		spans[:cap(spans)][i] = spanOf(-1, -1)
	}
	for i := range first[:cap(first)] {
		first[:cap(first)][i] = -1
	}
	if !slices.Equal(last, []int{20, 25, 60, 63}) {
		t.Errorf("FlyLast is %v when FlyFirst is written into", last)
	}
	wantSpans(t, "behind a change", p, []impl.FlySpan{spanOf(10, 20), spanOf(13, 25), spanOf(16, 60), spanOf(20, 63)})
	if !reflect.DeepEqual(room, kept) {
		t.Errorf("steps are %v", room)
	}
}
