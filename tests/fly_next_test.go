package tests

import (
	"math"
	"reflect"
	"slices"
	"testing"

	"loop.example/laplink/impl"
)

func TestFlyNext(t *testing.T) {
	least, most := math.MinInt, math.MaxInt
	none := spanOf(0, 0)
	short := changed(func(p *impl.FlyPath) { p.By = 30 })
	for name, c := range map[string]struct {
		path  impl.FlyPath
		begun []int
		next  impl.FlySpan
		ok    bool
	}{
		"nothing begun":                          {threeSteps(), nil, spanOf(10, 20), true},
		"an empty list begun":                    {threeSteps(), []int{}, spanOf(10, 20), true},
		"nothing begun, pulled back":             {changed(func(p *impl.FlyPath) { p.By = 22 }), nil, spanOf(10, 13), true},
		"first at From":                          {threeSteps(), []int{10}, spanOf(13, 15), true},
		"first at By":                            {threeSteps(), []int{20}, spanOf(23, 25), true},
		"first ahead of From":                    {threeSteps(), []int{9}, none, false},
		"first past By":                          {threeSteps(), []int{21}, none, false},
		"first too late for the end":             {changed(func(p *impl.FlyPath) { p.By = 22 }), []int{14}, none, false},
		"first just not too late":                {changed(func(p *impl.FlyPath) { p.By = 22 }), []int{13}, spanOf(16, 16), true},
		"held: as long as the next may":          {threeSteps(), []int{10, 13}, spanOf(16, 60), true},
		"held: up to the end's By":               {short, []int{10, 13}, spanOf(16, 27), true},
		"held, begun late":                       {threeSteps(), []int{20, 25}, spanOf(28, 60), true},
		"not held":                               {withStep(threeSteps(), 1, func(s *impl.FlyStep) { s.Hold = false }), []int{10, 13}, spanOf(16, 18), true},
		"second too quick":                       {threeSteps(), []int{10, 12}, none, false},
		"second too slow":                        {threeSteps(), []int{10, 16}, none, false},
		"second of another first":                {threeSteps(), []int{13, 16}, spanOf(19, 60), true},
		"all but the last":                       {threeSteps(), []int{10, 13, 16}, spanOf(20, 21), true},
		"all but the last, held long":            {threeSteps(), []int{10, 13, 60}, spanOf(63, 63), true},
		"all but the last, in between":           {threeSteps(), []int{10, 13, 59}, spanOf(62, 63), true},
		"all but the last, room to spare":        {threeSteps(), []int{10, 13, 40}, spanOf(43, 45), true},
		"third too quick":                        {threeSteps(), []int{10, 13, 15}, none, false},
		"third past By":                          {threeSteps(), []int{10, 13, 61}, none, false},
		"third too late for the end":             {short, []int{10, 13, 28}, none, false},
		"third just not too late":                {short, []int{10, 13, 27}, spanOf(30, 30), true},
		"good end of a bad beginning":            {threeSteps(), []int{9, 13, 16}, none, false},
		"a whole flight":                         {threeSteps(), []int{10, 13, 16, 20}, none, false},
		"more than a flight":                     {threeSteps(), []int{10, 13, 16, 20, 24}, none, false},
		"many more":                              {threeSteps(), ticksUp(10, 1000), none, false},
		"least":                                  {threeSteps(), []int{least}, none, false},
		"greatest":                               {threeSteps(), []int{most}, none, false},
		"second at the least":                    {threeSteps(), []int{10, least}, none, false},
		"second at the greatest":                 {threeSteps(), []int{10, most}, none, false},
		"third at the least":                     {threeSteps(), []int{10, 13, least}, none, false},
		"third at the greatest":                  {threeSteps(), []int{10, 13, most}, none, false},
		"back":                                   {threeSteps(), []int{20, 10}, none, false},
		"no flight, nothing begun":               {changed(func(p *impl.FlyPath) { p.From, p.By = 0, 18 }), nil, none, false},
		"no flight, one begun":                   {changed(func(p *impl.FlyPath) { p.From, p.By = 0, 18 }), []int{10}, none, false},
		"not ok, nothing begun":                  {changed(func(p *impl.FlyPath) { p.By = 10001 }), nil, none, false},
		"not ok, one begun":                      {changed(func(p *impl.FlyPath) { p.Kind.Slow = 51 }), []int{10}, none, false},
		"no path":                                {impl.FlyPath{}, nil, none, false},
		"no path, one begun":                     {impl.FlyPath{}, []int{0}, none, false},
		"one step, nothing begun":                {oneStep(2, 4, spanOf(5, 9), spanOf(0, 12), false), nil, spanOf(5, 9), true},
		"one step, begun":                        {oneStep(2, 4, spanOf(5, 9), spanOf(0, 12), false), []int{9}, spanOf(11, 12), true},
		"one step, begun and held":               {oneStep(2, 4, spanOf(5, 9), spanOf(0, 10000), true), []int{9}, spanOf(11, 10000), true},
		"one step, begun at 0":                   {oneStep(1, 1, spanOf(0, 0), spanOf(0, 10000), false), []int{0}, spanOf(1, 1), true},
		"one step, begun ahead of the last tick": {oneStep(1, 50, spanOf(0, 10000), spanOf(0, 10000), false), []int{9999}, spanOf(10000, 10000), true},
		"one step, begun at the last tick":       {oneStep(1, 50, spanOf(0, 10000), spanOf(0, 10000), true), []int{10000}, none, false},
		"one step, all of it begun":              {oneStep(2, 4, spanOf(5, 9), spanOf(0, 12), false), []int{5, 7}, none, false},
		"forty steps, 39 begun":                  {zigzag(40), ticksUp(3, 39), spanOf(42, 42), true},
		"forty steps, 40 begun":                  {zigzag(40), ticksUp(9960, 40), spanOf(10000, 10000), true},
		"forty steps, 41 begun":                  {zigzag(40), ticksUp(3, 41), none, false},
		"41 steps":                               {zigzag(41), ticksUp(3, 4), none, false},
	} {
		if next, ok := impl.FlyNext(c.path, c.begun); next != c.next || ok != c.ok {
			t.Errorf("%s: %v %v", name, next, ok)
		}
	}
}

func TestFlyGo(t *testing.T) {
	least, most := math.MinInt, math.MaxInt
	noFlight := changed(func(p *impl.FlyPath) { p.From, p.By = 0, 18 })
	notOk := changed(func(p *impl.FlyPath) { p.By = 10001 })
	one := oneStep(2, 4, spanOf(5, 9), spanOf(0, 12), false)
	held := oneStep(2, 4, spanOf(5, 9), spanOf(0, 10000), true)
	type list = []int
	for name, c := range map[string]struct {
		path   impl.FlyPath
		begun  []int
		asked  []int
		flight []int
	}{
		"as early as can be":           {threeSteps(), nil, nil, list{10, 13, 16, 20}},
		"empty lists":                  {threeSteps(), list{}, list{}, list{10, 13, 16, 20}},
		"just as is asked":             {threeSteps(), nil, list{11, 15, 30, 34}, list{11, 15, 30, 34}},
		"as late as can be":            {threeSteps(), nil, list{most, most, most, most}, list{20, 25, 60, 63}},
		"below all":                    {threeSteps(), nil, list{least, least, least, least}, list{10, 13, 16, 20}},
		"late, then early":             {threeSteps(), nil, list{most, least, most, least}, list{20, 23, 60, 63}},
		"early, then late":             {threeSteps(), nil, list{least, most, least, most}, list{10, 15, 18, 23}},
		"one below the first":          {threeSteps(), nil, list{9}, list{10, 13, 16, 20}},
		"at the first":                 {threeSteps(), nil, list{10}, list{10, 13, 16, 20}},
		"one above the least":          {threeSteps(), nil, list{11}, list{11, 14, 17, 20}},
		"one below the greatest":       {threeSteps(), nil, list{19}, list{19, 22, 25, 28}},
		"at the greatest":              {threeSteps(), nil, list{20}, list{20, 23, 26, 29}},
		"one above the greatest":       {threeSteps(), nil, list{21}, list{20, 23, 26, 29}},
		"second one too quick":         {threeSteps(), nil, list{10, 12, 30}, list{10, 13, 30, 33}},
		"second one too slow":          {threeSteps(), nil, list{10, 16, 30}, list{10, 15, 30, 33}},
		"asked is shorter":             {threeSteps(), list{10}, list{14}, list{10, 14, 17, 20}},
		"asked is longer":              {threeSteps(), list{10}, list{14, 20, 24, 30, 31}, list{10, 14, 20, 24}},
		"asked begins behind begun":    {threeSteps(), list{10, 13}, list{40, 44}, list{10, 13, 40, 44}},
		"all but the last, below":      {threeSteps(), list{10, 13, 16}, list{19}, list{10, 13, 16, 20}},
		"all but the last, least":      {threeSteps(), list{10, 13, 16}, list{20}, list{10, 13, 16, 20}},
		"all but the last, greatest":   {threeSteps(), list{10, 13, 16}, list{21}, list{10, 13, 16, 21}},
		"all but the last, above":      {threeSteps(), list{10, 13, 16}, list{22}, list{10, 13, 16, 21}},
		"all but the last, not asked":  {threeSteps(), list{10, 13, 60}, nil, list{10, 13, 60, 63}},
		"all begun":                    {threeSteps(), list{10, 13, 16, 20}, nil, list{10, 13, 16, 20}},
		"all begun, and asked":         {threeSteps(), list{10, 13, 16, 20}, list{21, 22}, list{10, 13, 16, 20}},
		"all begun, the last too slow": {threeSteps(), list{10, 13, 16, 22}, nil, nil},
		"all begun, the first wrong":   {threeSteps(), list{9, 13, 16, 20}, nil, nil},
		"more begun":                   {threeSteps(), list{10, 13, 16, 20, 24}, nil, nil},
		"many more begun":              {threeSteps(), ticksUp(10, 1000), list{1}, nil},
		"begun too early":              {threeSteps(), list{9}, nil, nil},
		"begun too late":               {threeSteps(), list{21}, list{25, 30, 34}, nil},
		"begun too quick":              {threeSteps(), list{10, 12}, list{20, 24}, nil},
		"begun too slow":               {threeSteps(), list{10, 16}, list{20, 24}, nil},
		"begun without a way out":      {changed(func(p *impl.FlyPath) { p.By = 30 }), list{10, 13, 28}, list{30}, nil},
		"begun with one way out":       {changed(func(p *impl.FlyPath) { p.By = 30 }), list{10, 13, 27}, list{99}, list{10, 13, 27, 30}},
		"begun at the least":           {threeSteps(), list{least}, nil, nil},
		"begun at the greatest":        {threeSteps(), list{most}, nil, nil},
		"begun wild at second":         {threeSteps(), list{10, most}, nil, nil},
		"begun wild at third":          {threeSteps(), list{10, 13, least}, nil, nil},
		"begun wild at last":           {threeSteps(), list{10, 13, 16, most}, nil, nil},
		"no flight":                    {noFlight, nil, nil, nil},
		"no flight, asked":             {noFlight, nil, list{10, 13, 16, 18}, nil},
		"no flight, all begun":         {noFlight, list{10, 13, 16, 18}, nil, nil},
		"not ok":                       {notOk, nil, nil, nil},
		"not ok, all begun":            {notOk, list{10, 13, 16, 20}, nil, nil},
		"no path":                      {impl.FlyPath{}, nil, nil, nil},
		"no path, one begun":           {impl.FlyPath{}, list{0}, list{1}, nil},
		"one step":                     {one, nil, nil, list{5, 7}},
		"one step, late":               {one, nil, list{99, 99}, list{9, 12}},
		"one step, begun":              {one, list{8}, list{11}, list{8, 11}},
		"one step, begun, too slow":    {one, list{6}, list{11}, list{6, 10}},
		"one step, all begun":          {one, list{6, 10}, list{7}, list{6, 10}},
		"one step, more begun":         {one, list{6, 10, 12}, nil, nil},
		"one step, held to the last":   {held, list{5}, list{most}, list{5, 10000}},
		"forty steps":                  {zigzag(40), nil, nil, ticksUp(0, 41)},
		"forty steps, at the last":     {zigzag(40), nil, list{most}, ticksUp(9960, 41)},
		"forty steps, 40 begun":        {zigzag(40), ticksUp(7, 40), list{0}, ticksUp(7, 41)},
		"41 steps":                     {zigzag(41), nil, nil, nil},
	} {
		flight, ok := impl.FlyGo(c.path, c.begun, c.asked)
		if ok != (len(c.flight) > 0) || !slices.Equal(flight, c.flight) {
			t.Errorf("%s: %v %v, not %v", name, flight, ok, c.flight)
		}
	}
}

// fewPaths are one in so many of the small paths and of the longer ones.
func fewPaths(oneIn int, each func(p impl.FlyPath)) {
	count := 0
	some := func(p impl.FlyPath) {
		count++
		if count%oneIn == 0 {
			each(p)
		}
	}
	smallPaths(some)
	longerPaths(some)
}

// beginnings are all lists of up to so many ticks, each of least to most.
func beginnings(length int, least int, most int) [][]int {
	all := [][]int{nil}
	for done := 0; done < len(all); done++ {
		if len(all[done]) == length {
			break
		}
		for tick := least; tick <= most; tick++ {
			all = append(all, append(slices.Clone(all[done]), tick))
		}
	}
	return all
}

// plainNext are all ticks that stand behind begun in one of these flights, in order.
func plainNext(flights [][]int, begun []int) []int {
	var ticks []int
	for _, flight := range flights {
		if len(flight) > len(begun) && slices.Equal(flight[:len(begun)], begun) {
			ticks = append(ticks, flight[len(begun)])
		}
	}
	slices.Sort(ticks)
	return slices.Compact(ticks)
}

// wantNext holds FlyNext against the flights of a path. Promise 4: it tells
// each tick at which the beginning can be gone on with, and no other.
func wantNext(t *testing.T, p impl.FlyPath, flights [][]int, begun []int) {
	t.Helper()
	next, ok := impl.FlyNext(p, begun)
	ticks := plainNext(flights, begun)
	if ok != (len(ticks) > 0) || !ok && next != (impl.FlySpan{}) {
		t.Errorf("%v, begun %v: %v %v, not %v", p, begun, next, ok, ticks)
	}
	if ok && !slices.Equal(ticks, ticksUp(next.Low, next.High-next.Low+1)) {
		t.Errorf("%v, begun %v: %v, not %v", p, begun, next, ticks)
	}
}

func TestFlyNextOfEverySmallBeginning(t *testing.T) {
	begun := beginnings(4, -1, 5)
	fewPaths(331, func(p impl.FlyPath) {
		flights := plainFlights(p, nil)
		for _, b := range begun {
			wantNext(t, p, flights, b)
		}
	})
}

// Each beginning of each flight, and what is one tick off it.
func TestFlyNextBesideEachFlight(t *testing.T) {
	longerPaths(func(p impl.FlyPath) {
		flights := plainFlights(p, nil)
		for nth, flight := range flights {
			if nth%17 != 0 {
				continue
			}
			for length := 0; length <= len(flight); length++ {
				wantNext(t, p, flights, flight[:length])
				for place := range length {
					off := slices.Clone(flight[:length])
					off[place]++
					wantNext(t, p, flights, off)
					off[place] -= 2
					wantNext(t, p, flights, off)
				}
			}
		}
	})
}

// plainGo says FlyGo once more, by looking at all flights for each tick.
func plainGo(p impl.FlyPath, flights [][]int, begun []int, asked []int) []int {
	flight := slices.Clone(begun)
	for len(flight) <= len(p.Steps) {
		ticks := plainNext(flights, flight)
		if len(ticks) == 0 {
			return nil
		}
		best := ticks[0]
		if place := len(flight) - len(begun); place < len(asked) {
			for _, tick := range ticks {
				if max(tick-asked[place], asked[place]-tick) < max(best-asked[place], asked[place]-best) {
					best = tick
				}
			}
		}
		flight = append(flight, best)
	}
	if !plainLawful(p, flight) {
		return nil
	}
	return flight
}

func TestFlyGoOfEverySmallAsking(t *testing.T) {
	begun, asked := beginnings(3, 0, 4), beginnings(3, -1, 5)
	fewPaths(331, func(p impl.FlyPath) {
		flights := plainFlights(p, nil)
		for i, b := range begun {
			for j := i % 13; j < len(asked); j += 13 {
				flight, ok := impl.FlyGo(p, b, asked[j])
				if want := plainGo(p, flights, b, asked[j]); ok != (len(want) > 0) || !slices.Equal(flight, want) {
					t.Errorf("%v, begun %v, asked %v: %v %v, not %v", p, b, asked[j], flight, ok, want)
				}
			}
		}
	})
}

// keepsToTube says promise 1 of a flight: it keeps to the path, and at each of
// its ticks it is in one step, and there in the tube on each level.
func keepsToTube(p impl.FlyPath, tube []impl.FlyBox, flight []int) bool {
	if !plainLawful(p, flight) {
		return false
	}
	for tick := flight[0]; tick < flight[len(flight)-1]; tick++ {
		in := 0
		for place, s := range p.Steps {
			if tick < flight[place] || flight[place+1] <= tick {
				continue
			}
			in++
			for level := s.Low; level <= s.High; level++ {
				if !plainWithin(tube, s.X, s.Y, level, tick) || !plainWithin(tube[place:place+1], s.X, s.Y, level, tick) {
					return false
				}
			}
		}
		if in != 1 {
			return false
		}
	}
	return true
}

// Promise 1.
func TestFlyGoKeepsToThePathAndItsTube(t *testing.T) {
	asking := beginnings(3, -1, 12)
	flown := 0
	longerPaths(func(p impl.FlyPath) {
		tube := impl.FlyTube(p)
		for i := 0; i < len(asking); i += 97 {
			flight, ok := impl.FlyGo(p, nil, asking[i])
			if ok != (len(tube) > 0) || ok && !keepsToTube(p, tube, flight) {
				t.Errorf("%v, asked %v: %v %v", p, asking[i], flight, ok)
			}
			if ok {
				flown++
			}
		}
	})
	for name, c := range spanCases() {
		for _, asked := range [][]int{nil, {18}, {0, 16, 10000}, {20, 20, 30, 40}, {10000, 10000, 10000, 10000}} {
			flight, ok := impl.FlyGo(c.path, nil, asked)
			if ok != (len(c.spans) > 0) || ok && !keepsToTube(c.path, impl.FlyTube(c.path), flight) {
				t.Errorf("%s, asked %v: %v %v", name, asked, flight, ok)
			}
		}
	}
	if flown < 1000 {
		t.Errorf("only %d flights", flown)
	}
}

func TestFlyNextAndFlyGoOfWildNumbers(t *testing.T) {
	for name, at := range pathNumbers() {
		for _, n := range wild {
			p := threeSteps()
			*at(&p) = n
			next, ok := impl.FlyNext(p, nil)
			spans, some := impl.FlySpans(p)
			if ok != some || ok && next != spans[0] || !ok && next != (impl.FlySpan{}) {
				t.Errorf("%s is %d: FlyNext is %v %v", name, n, next, ok)
			}
			for _, asked := range wild {
				flight, ok := impl.FlyGo(p, nil, []int{asked, asked, asked, asked})
				if ok != some || ok && !plainLawful(p, flight) || !ok && len(flight) > 0 {
					t.Errorf("%s is %d, asked %d: %v %v", name, n, asked, flight, ok)
				}
			}
		}
	}
}

func TestFlyNextAndFlyGoOfWildTicks(t *testing.T) {
	p := threeSteps()
	for place := range 4 {
		for _, n := range wild {
			begun := []int{10, 13, 40, 44}
			begun[place] = n
			for length := place + 1; length <= 4; length++ {
				flight, ok := impl.FlyGo(p, begun[:length], wild)
				next, more := impl.FlyNext(p, begun[:length])
				if ok && (!plainLawful(p, flight) || !slices.Equal(flight[:length], begun[:length])) || !ok && len(flight) > 0 {
					t.Errorf("begun %v: %v %v", begun[:length], flight, ok)
				}
				if length < 4 && more != ok || length == 4 && more || !more && next != (impl.FlySpan{}) {
					t.Errorf("begun %v: %v %v", begun[:length], next, more)
				}
			}
		}
	}
}

func TestFlyNextAndFlyGoWriteAndKeepNothing(t *testing.T) {
	room := append(threeSteps().Steps, impl.FlyStep{X: 9}, impl.FlyStep{X: 8})
	p := threeSteps()
	p.Steps = room[:3]
	begun, asked := []int{10, 13, 16, 20, 77, 78}, []int{14, 30, 99, 98}
	keptRoom, keptBegun, keptAsked := slices.Clone(room), slices.Clone(begun), slices.Clone(asked)
	for length := range 5 {
		flight, ok := impl.FlyGo(p, begun[:length], asked[:2])
		impl.FlyNext(p, begun[:length])
		want := slices.Clone(flight)
		for i := range flight[:cap(flight)] {
			flight[:cap(flight)][i] = -1
		}
		if again, _ := impl.FlyGo(p, begun[:length], asked[:2]); !ok || !slices.Equal(again, want) {
			t.Errorf("%d begun: %v, and behind a change %v", length, want, again)
		}
		if !reflect.DeepEqual(room, keptRoom) || !slices.Equal(begun, keptBegun) || !slices.Equal(asked, keptAsked) {
			t.Errorf("%d begun: steps are %v, begun %v, asked %v", length, room, begun, asked)
		}
	}
}
