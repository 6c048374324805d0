package tests

import (
	"math"
	"reflect"
	"slices"
	"testing"

	"loop.example/laplink/impl"
)

// leftCase is what is left of threeSteps, or of a path of one's own: when the
// first step may be entered, and from when on it may be left. No entry: nothing
// is left.
type leftCase struct {
	path  impl.FlyPath
	step  int
	now   int
	entry impl.FlySpan
	leave int
	ok    bool
}

// leftPath is what the case says is left.
func (c leftCase) leftPath() impl.FlyPath {
	if !c.ok {
		return impl.FlyPath{}
	}
	return plainCut(c.path, c.step, c.entry, c.leave)
}

// plainCut is a path from a step on, its first step with these bounds, the
// tick behind it from leave on.
func plainCut(p impl.FlyPath, step int, entry impl.FlySpan, leave int) impl.FlyPath {
	rest := impl.FlyPath{Kind: p.Kind, From: p.From, By: p.By}
	for place := step; place < len(p.Steps); place++ {
		s := p.Steps[place]
		if place == step {
			s.From, s.By = entry.Low, entry.High
		}
		if place == step+1 {
			s.From = leave
		}
		rest.Steps = append(rest.Steps, s)
	}
	if step == len(p.Steps)-1 {
		rest.From = leave
	}
	return rest
}

// samePath holds two paths against each other; no steps are the same as nil.
func samePath(a impl.FlyPath, b impl.FlyPath) bool {
	same := a.Kind == b.Kind && a.From == b.From && a.By == b.By
	return same && slices.Equal(a.Steps, b.Steps)
}

func TestFlyRest(t *testing.T) {
	none := spanOf(0, 0)
	p := threeSteps()
	// Its middle step can't be reached from its first one.
	apart := changed(func(p *impl.FlyPath) { p.Steps[0].From, p.Steps[0].By = 1, 2 })
	at0 := oneStep(2, 4, spanOf(0, 9), spanOf(0, 12), false)
	held := oneStep(2, 4, spanOf(0, 10000), spanOf(0, 10000), true)
	for name, c := range map[string]struct {
		entered int
		leftCase
	}{
		"first, now at the entry":           {10, leftCase{p, 0, 10, spanOf(10, 10), 12, true}},
		"first, one below the next From":    {10, leftCase{p, 0, 11, spanOf(10, 10), 12, true}},
		"first, at the next From":           {10, leftCase{p, 0, 12, spanOf(10, 10), 13, true}},
		"first, at its last tick":           {10, leftCase{p, 0, 14, spanOf(10, 10), 15, true}},
		"first, one behind that":            {10, leftCase{p, 0, 15, none, 0, false}},
		"first, at By":                      {20, leftCase{p, 0, 20, spanOf(20, 20), 21, true}},
		"first, at By, the last tick":       {20, leftCase{p, 0, 24, spanOf(20, 20), 25, true}},
		"first, at By, one behind":          {20, leftCase{p, 0, 25, none, 0, false}},
		"first, entered ahead of From":      {9, leftCase{p, 0, 9, none, 0, false}},
		"first, entered past By":            {21, leftCase{p, 0, 21, none, 0, false}},
		"first, entered one above now":      {11, leftCase{p, 0, 10, none, 0, false}},
		"held, now at the entry":            {13, leftCase{p, 1, 13, spanOf(13, 13), 15, true}},
		"held, at the next From":            {13, leftCase{p, 1, 15, spanOf(13, 13), 16, true}},
		"held, past Slow":                   {13, leftCase{p, 1, 18, spanOf(13, 13), 19, true}},
		"held, at its last tick":            {13, leftCase{p, 1, 59, spanOf(13, 13), 60, true}},
		"held, one behind that":             {13, leftCase{p, 1, 60, none, 0, false}},
		"held, entered at no flight's tick": {12, leftCase{p, 1, 12, spanOf(12, 12), 15, true}},
		"held, entered at By":               {30, leftCase{p, 1, 31, spanOf(30, 30), 32, true}},
		"held, entered past By":             {31, leftCase{p, 1, 31, none, 0, false}},
		"last, now at the entry":            {16, leftCase{p, 2, 16, spanOf(16, 16), 20, true}},
		"last, one below the end's From":    {16, leftCase{p, 2, 19, spanOf(16, 16), 20, true}},
		"last, at its last tick":            {16, leftCase{p, 2, 20, spanOf(16, 16), 21, true}},
		"last, one behind that":             {16, leftCase{p, 2, 21, none, 0, false}},
		"last, up to the end's By":          {60, leftCase{p, 2, 62, spanOf(60, 60), 63, true}},
		"last, past the end's By":           {60, leftCase{p, 2, 63, none, 0, false}},
		"no step ahead of the first":        {10, leftCase{p, -1, 10, none, 0, false}},
		"no step behind the last":           {16, leftCase{p, 3, 16, none, 0, false}},
		"step at the least":                 {10, leftCase{p, math.MinInt, 10, none, 0, false}},
		"step at the greatest":              {10, leftCase{p, math.MaxInt, 10, none, 0, false}},
		"entered 0":                         {0, leftCase{at0, 0, 0, spanOf(0, 0), 1, true}},
		"entered 0, at its last tick":       {0, leftCase{at0, 0, 3, spanOf(0, 0), 4, true}},
		"entered 0, one behind that":        {0, leftCase{at0, 0, 4, none, 0, false}},
		"entered below 0":                   {-1, leftCase{at0, 0, 0, none, 0, false}},
		"entered below 0, now too":          {-1, leftCase{at0, 0, -1, none, 0, false}},
		"entered 0, now below 0":            {0, leftCase{at0, 0, -1, none, 0, false}},
		"entered at the least":              {math.MinInt, leftCase{at0, 0, 3, none, 0, false}},
		"both at the least":                 {math.MinInt, leftCase{at0, 0, math.MinInt, none, 0, false}},
		"entered at the greatest":           {math.MaxInt, leftCase{held, 0, 3, none, 0, false}},
		"both at the greatest":              {math.MaxInt, leftCase{held, 0, math.MaxInt, none, 0, false}},
		"now at the greatest":               {5, leftCase{held, 0, math.MaxInt, none, 0, false}},
		"now at the least":                  {5, leftCase{held, 0, math.MinInt, none, 0, false}},
		"now one ahead of the last tick":    {5, leftCase{held, 0, 9999, spanOf(5, 5), 10000, true}},
		"now at the last tick":              {5, leftCase{held, 0, 10000, none, 0, false}},
		"now one above the last tick":       {5, leftCase{held, 0, 10001, none, 0, false}},
		"entered too late to leave":         {9999, leftCase{held, 0, 9999, none, 0, false}},
		"entered just in time to leave":     {9998, leftCase{held, 0, 9999, spanOf(9998, 9998), 10000, true}},
		// What is left asks nothing of the steps that were flown.
		"no flight to it, but from it":  {20, leftCase{apart, 1, 20, spanOf(20, 20), 21, true}},
		"no flight along it":            {1, leftCase{apart, 0, 1, none, 0, false}},
		"not ok":                        {20, leftCase{changed(func(p *impl.FlyPath) { p.By = 10001 }), 1, 20, none, 0, false}},
		"a step that was flown, not ok": {20, leftCase{changed(func(p *impl.FlyPath) { p.Steps[0].Low = -1 }), 1, 20, none, 0, false}},
		"two steps too far apart":       {20, leftCase{changed(func(p *impl.FlyPath) { p.Steps[0].X = 3 }), 1, 20, none, 0, false}},
		"no path":                       {0, leftCase{impl.FlyPath{}, 0, 0, none, 0, false}},
		"the last of forty":             {50, leftCase{zigzag(40), 39, 50, spanOf(50, 50), 51, true}},
		"the last but one of forty":     {50, leftCase{zigzag(40), 38, 50, spanOf(50, 50), 51, true}},
		"the place behind forty":        {50, leftCase{zigzag(40), 40, 50, none, 0, false}},
		"41 steps":                      {50, leftCase{zigzag(41), 3, 50, none, 0, false}},
	} {
		rest, ok := impl.FlyRest(c.path, c.step, c.entered, c.now)
		if want := c.leftPath(); ok != c.ok || !samePath(rest, want) {
			t.Errorf("%s: %v %v, not %v", name, rest, ok, want)
		}
	}
}

func TestFlySeen(t *testing.T) {
	none := spanOf(0, 0)
	p := threeSteps()
	apart := changed(func(p *impl.FlyPath) { p.Steps[0].From, p.Steps[0].By = 1, 2 })
	at0 := oneStep(2, 4, spanOf(0, 9), spanOf(0, 12), false)
	held := oneStep(2, 4, spanOf(0, 10000), spanOf(0, 10000), true)
	for name, c := range map[string]leftCase{
		"first, ahead of its span":        {p, 0, 9, none, 0, false},
		"first, at the first entry":       {p, 0, 10, spanOf(10, 10), 12, true},
		"first, one behind that":          {p, 0, 11, spanOf(10, 11), 12, true},
		"first, at the next From":         {p, 0, 12, spanOf(10, 12), 13, true},
		"first, one below its High":       {p, 0, 19, spanOf(10, 19), 20, true},
		"first, at its High":              {p, 0, 20, spanOf(10, 20), 21, true},
		"first, one above its High":       {p, 0, 21, spanOf(10, 20), 22, true},
		"first, at its last tick":         {p, 0, 24, spanOf(10, 20), 25, true},
		"first, behind its last tick":     {p, 0, 25, none, 0, false},
		"held, ahead of its span":         {p, 1, 12, none, 0, false},
		"held, at the first entry":        {p, 1, 13, spanOf(13, 13), 15, true},
		"held, the span, not the window":  {p, 1, 28, spanOf(13, 25), 29, true},
		"held, at its last tick":          {p, 1, 59, spanOf(13, 25), 60, true},
		"held, one behind that":           {p, 1, 60, none, 0, false},
		"last, ahead of its span":         {p, 2, 15, none, 0, false},
		"last, at the first entry":        {p, 2, 16, spanOf(16, 16), 20, true},
		"last, one below the end's From":  {p, 2, 19, spanOf(16, 19), 20, true},
		"last, at the end's From":         {p, 2, 20, spanOf(16, 20), 21, true},
		"last, at its last tick":          {p, 2, 62, spanOf(16, 60), 63, true},
		"last, one behind that":           {p, 2, 63, none, 0, false},
		"no step ahead of the first":      {p, -1, 15, none, 0, false},
		"no step behind the last":         {p, 3, 20, none, 0, false},
		"step at the least":               {p, math.MinInt, 15, none, 0, false},
		"step at the greatest":            {p, math.MaxInt, 15, none, 0, false},
		"now 0":                           {at0, 0, 0, spanOf(0, 0), 1, true},
		"now below 0":                     {at0, 0, -1, none, 0, false},
		"now at the least":                {at0, 0, math.MinInt, none, 0, false},
		"now at the greatest":             {held, 0, math.MaxInt, none, 0, false},
		"now one ahead of the last tick":  {held, 0, 9999, spanOf(0, 9998), 10000, true},
		"now at the last tick":            {held, 0, 10000, none, 0, false},
		"now one above the last tick":     {held, 0, 10001, none, 0, false},
		"span pulled back by the end":     {changed(func(p *impl.FlyPath) { p.By = 22 }), 0, 15, spanOf(10, 13), 16, true},
		"span pulled back, at its last":   {changed(func(p *impl.FlyPath) { p.By = 22 }), 1, 18, spanOf(13, 16), 19, true},
		"span pulled back, one behind":    {changed(func(p *impl.FlyPath) { p.By = 22 }), 1, 19, none, 0, false},
		"no flight to it, but from it":    {apart, 1, 20, none, 0, false},
		"no flight along it":              {apart, 0, 1, none, 0, false},
		"not ok":                          {changed(func(p *impl.FlyPath) { p.By = 10001 }), 1, 20, none, 0, false},
		"a step that was flown, not ok":   {changed(func(p *impl.FlyPath) { p.Steps[0].Low = -1 }), 1, 20, none, 0, false},
		"no path":                         {impl.FlyPath{}, 0, 0, none, 0, false},
		"the last of forty":               {zigzag(40), 39, 50, spanOf(39, 50), 51, true},
		"the last of forty, at its last":  {zigzag(40), 39, 9999, spanOf(39, 9999), 10000, true},
		"the first of forty, at its last": {zigzag(40), 0, 9960, spanOf(0, 9960), 9961, true},
		"the first of forty, one behind":  {zigzag(40), 0, 9961, none, 0, false},
		"the last of forty, ahead of it":  {zigzag(40), 39, 38, none, 0, false},
		"the place behind forty":          {zigzag(40), 40, 50, none, 0, false},
		"41 steps":                        {zigzag(41), 3, 50, none, 0, false},
	} {
		rest, ok := impl.FlySeen(c.path, c.step, c.now)
		if want := c.leftPath(); ok != c.ok || !samePath(rest, want) {
			t.Errorf("%s: %v %v, not %v", name, rest, ok, want)
		}
	}
}

// plainRest says FlyRest once more, word by word; hasFlight says whether there
// is a flight along a path.
func plainRest(p impl.FlyPath, step int, entered int, now int, hasFlight func(impl.FlyPath) bool) (impl.FlyPath, bool) {
	if !plainPathOk(p) || !within(0, step, len(p.Steps)-1) || now > 10000 || entered < 0 || entered > now {
		return impl.FlyPath{}, false
	}
	s := p.Steps[step]
	rest := plainCut(p, step, spanOf(max(s.From, entered), min(s.By, entered)), plainLeave(p, step, now))
	if !hasFlight(rest) {
		return impl.FlyPath{}, false
	}
	return rest, true
}

// plainSeen says FlySeen once more, word by word; spans are those of p.
func plainSeen(p impl.FlyPath, step int, now int, spans []impl.FlySpan, hasFlight func(impl.FlyPath) bool) (impl.FlyPath, bool) {
	if len(spans) == 0 || !within(0, step, len(p.Steps)-1) || !within(0, now, 10000) {
		return impl.FlyPath{}, false
	}
	rest := plainCut(p, step, spanOf(spans[step].Low, min(spans[step].High, now)), plainLeave(p, step, now))
	if !hasFlight(rest) {
		return impl.FlyPath{}, false
	}
	return rest, true
}

// plainLeave is when the tick behind a step is from, of somebody who is in it now.
func plainLeave(p impl.FlyPath, step int, now int) int {
	if step == len(p.Steps)-1 {
		return max(p.From, now+1)
	}
	return max(p.Steps[step+1].From, now+1)
}

func TestFlyRestAndFlySeenOfEverySmallPath(t *testing.T) {
	hasFlight := func(p impl.FlyPath) bool { return len(plainFlights(p, nil)) > 0 }
	left, gone := 0, 0
	fewPaths(13, func(p impl.FlyPath) {
		spans := plainSpans(plainFlights(p, nil))
		for step := -1; step <= len(p.Steps); step++ {
			for now := -1; now <= 6; now++ {
				got, ok := impl.FlySeen(p, step, now)
				if want, some := plainSeen(p, step, now, spans, hasFlight); ok != some || !samePath(got, want) {
					t.Errorf("%v, step %d seen at %d: %v %v, not %v", p, step, now, got, ok, want)
				}
				for entered := -1; entered <= 7; entered++ {
					got, ok := impl.FlyRest(p, step, entered, now)
					if want, some := plainRest(p, step, entered, now, hasFlight); ok != some || !samePath(got, want) {
						t.Errorf("%v, step %d entered at %d, now %d: %v %v, not %v", p, step, entered, now, got, ok, want)
					}
					if ok {
						left++
					} else {
						gone++
					}
				}
			}
		}
	})
	if left < 1000 || gone < 1000 {
		t.Errorf("something left: %d, nothing: %d", left, gone)
	}
}

// tails are the ticks from a step on of the flights that are in it now and
// entered it at such a tick.
func tails(flights [][]int, step int, now int, entered func(tick int) bool) [][]int {
	var all [][]int
	for _, flight := range flights {
		if where, ok := plainWhere(flight, now); ok && where == step && entered(flight[step]) {
			all = append(all, flight[step:])
		}
	}
	return sorted(all)
}

// sorted is a list of flights in order, each of them once.
func sorted(flights [][]int) [][]int {
	slices.SortFunc(flights, slices.Compare)
	return slices.CompactFunc(flights, slices.Equal)
}

// wantFlights says that just these flights keep to what is left.
func wantFlights(t *testing.T, name string, p impl.FlyPath, rest impl.FlyPath, ok bool, want [][]int) {
	t.Helper()
	if ok != (len(want) > 0) {
		t.Errorf("%v, %s: %v, but its flights are %v", p, name, ok, want)
		return
	}
	if ok && !slices.EqualFunc(sorted(plainFlights(rest, nil)), want, slices.Equal) {
		t.Errorf("%v, %s: %v, but its flights are %v", p, name, rest, want)
	}
}

// Promise 5: of a path with these flights, in a step, now. What is left has
// just the flights that are there, and no wider a tube.
func wantLeft(t *testing.T, p impl.FlyPath, flights [][]int, step int, now int) {
	t.Helper()
	seen, ok := impl.FlySeen(p, step, now)
	wantFlights(t, "seen", p, seen, ok, tails(flights, step, now, func(int) bool { return true }))
	if !ok {
		return
	}
	whole, tube := impl.FlyTube(p), impl.FlyTube(seen)
	if len(tube) == 0 || !plainSmaller(tube, whole) {
		t.Errorf("%v, step %d seen at %d: its tube %v is not within %v", p, step, now, tube, whole)
	}
	entries := plainSpans(plainFlights(seen, nil))[0]
	for entered := seen.Steps[0].From; entered <= seen.Steps[0].By; entered++ {
		rest, ok := impl.FlyRest(p, step, entered, now)
		wantFlights(t, "rest", p, rest, ok, tails(flights, step, now, func(tick int) bool { return tick == entered }))
		if ok != within(entries.Low, entered, entries.High) {
			t.Errorf("%v, step %d entered at %d, now %d: %v, seen %v", p, step, entered, now, ok, seen)
		}
		narrow := impl.FlyTube(rest)
		if ok && (len(narrow) == 0 || !plainSmaller(narrow, tube) || !plainSmaller(narrow, whole)) {
			t.Errorf("%v, step %d entered at %d, now %d: its tube %v is not within %v", p, step, entered, now, narrow, tube)
		}
	}
}

func TestFlyRestAndFlySeenLeaveJustTheFlightsThatAreThere(t *testing.T) {
	fewPaths(11, func(p impl.FlyPath) {
		flights := plainFlights(p, nil)
		for step := range p.Steps {
			for now := range 7 {
				wantLeft(t, p, flights, step, now)
			}
		}
	})
	nth := 0
	longerPaths(func(p impl.FlyPath) {
		nth++
		flights := plainFlights(p, nil)
		if nth%5 != 0 || len(flights) == 0 {
			return
		}
		for step := range p.Steps {
			for now := range 13 {
				wantLeft(t, p, flights, step, now)
			}
		}
	})
}

func TestFlyRestAndFlySeenOfWildNumbers(t *testing.T) {
	hasFlight := func(p impl.FlyPath) bool {
		_, ok := impl.FlySpans(p)
		return ok
	}
	holdAll := oneStep(1, 50, spanOf(0, 10000), spanOf(0, 10000), true)
	for _, p := range []impl.FlyPath{threeSteps(), holdAll, zigzag(40), zigzag(41), {}} {
		spans, _ := impl.FlySpans(p)
		for _, step := range wild {
			for _, now := range wild {
				got, ok := impl.FlySeen(p, step, now)
				if want, some := plainSeen(p, step, now, spans, hasFlight); ok != some || !samePath(got, want) {
					t.Errorf("step %d seen at %d: %v %v, not %v", step, now, got, ok, want)
				}
				for _, entered := range wild {
					got, ok := impl.FlyRest(p, step, entered, now)
					if want, some := plainRest(p, step, entered, now, hasFlight); ok != some || !samePath(got, want) {
						t.Errorf("step %d entered at %d, now %d: %v %v, not %v", step, entered, now, got, ok, want)
					}
				}
			}
		}
	}
	for name, at := range pathNumbers() {
		for _, n := range wild {
			p := threeSteps()
			*at(&p) = n
			spans, _ := impl.FlySpans(p)
			for step := range 3 {
				got, ok := impl.FlySeen(p, step, 18)
				if want, some := plainSeen(p, step, 18, spans, hasFlight); ok != some || !samePath(got, want) {
					t.Errorf("%s is %d, step %d seen: %v %v, not %v", name, n, step, got, ok, want)
				}
				got, ok = impl.FlyRest(p, step, 16, 18)
				if want, some := plainRest(p, step, 16, 18, hasFlight); ok != some || !samePath(got, want) {
					t.Errorf("%s is %d, step %d entered: %v %v, not %v", name, n, step, got, ok, want)
				}
			}
		}
	}
}

func TestFlyRestAndFlySeenWriteAndKeepNothing(t *testing.T) {
	room := append(threeSteps().Steps, impl.FlyStep{X: 9}, impl.FlyStep{X: 8})
	kept := slices.Clone(room)
	p := threeSteps()
	p.Steps = room[:3]
	for step, now := range []int{18, 18, 20} {
		for name, left := range map[string]func() (impl.FlyPath, bool){
			"rest": func() (impl.FlyPath, bool) { return impl.FlyRest(p, step, 17, now) },
			"seen": func() (impl.FlyPath, bool) { return impl.FlySeen(p, step, now) },
		} {
			rest, ok := left()
			want := rest
			want.Steps = slices.Clone(rest.Steps)
			for i := range rest.Steps[:cap(rest.Steps)] {
				rest.Steps[:cap(rest.Steps)][i] = impl.FlyStep{X: -1}
			}
			if again, _ := left(); !ok || len(want.Steps) != 3-step || !samePath(again, want) {
				t.Errorf("%s of %d: %v, and behind a change %v", name, step, want, again)
			}
			if !reflect.DeepEqual(room, kept) {
				t.Errorf("%s of %d: steps are %v", name, step, room)
			}
		}
	}
}
