package tests

import (
	"math"
	"reflect"
	"slices"
	"testing"

	"loop.example/laplink/impl"
)

// plainShift is a path with all ticks so many more, in memory of its own.
func plainShift(p impl.FlyPath, by int) impl.FlyPath {
	shifted := impl.FlyPath{Kind: p.Kind, From: p.From + by, By: p.By + by}
	for _, s := range p.Steps {
		s.From, s.By = s.From+by, s.By+by
		shifted.Steps = append(shifted.Steps, s)
	}
	return shifted
}

func TestFlyShift(t *testing.T) {
	p := threeSteps() // its ticks are 10 to 63
	low := changed(func(p *impl.FlyPath) { p.From, p.By = 4, 9 })
	high := changed(func(p *impl.FlyPath) { p.Steps[1].By = 70 })
	least, most := oneStep(1, 2, spanOf(0, 0), spanOf(0, 0), false), oneStep(1, 2, spanOf(10000, 10000), spanOf(10000, 10000), false)
	whole := oneStep(1, 2, spanOf(0, 10000), spanOf(0, 10000), true)
	for name, c := range map[string]struct {
		path impl.FlyPath
		by   int
		ok   bool
	}{
		"by 0":                                {p, 0, true},
		"by 1":                                {p, 1, true},
		"by -1":                               {p, -1, true},
		"later":                               {p, 700, true},
		"a step's From to 0":                  {p, -10, true},
		"a step's From one below 0":           {p, -11, false},
		"the path's own From to 0":            {low, -4, true},
		"the path's own From one below 0":     {low, -5, false},
		"the path's own By to the last":       {p, 9937, true},
		"the path's own By one past the last": {p, 9938, false},
		"a step's By to the last":             {high, 9930, true},
		"a step's By one past the last":       {high, 9931, false},
		"by FlyMaxTick":                       {least, 10000, true},
		"by one below FlyMaxTick":             {least, 9999, true},
		"by one past FlyMaxTick":              {least, 10001, false},
		"by FlyMaxTick, too far":              {p, 10000, false},
		"by -FlyMaxTick":                      {most, -10000, true},
		"by one above -FlyMaxTick":            {most, -9999, true},
		"by one past -FlyMaxTick":             {most, -10001, false},
		"by -FlyMaxTick, too far":             {p, -10000, false},
		"from 0 back":                         {least, -1, false},
		"from the last on":                    {most, 1, false},
		"all ticks, by 0":                     {whole, 0, true},
		"all ticks, by 1":                     {whole, 1, false},
		"all ticks, by -1":                    {whole, -1, false},
		"least":                               {p, math.MinInt, false},
		"greatest":                            {p, math.MaxInt, false},
		"least, of the last tick":             {most, math.MinInt, false},
		"greatest, of the first tick":         {least, math.MaxInt, false},
		"ok, but no flight":                   {changed(func(p *impl.FlyPath) { p.From, p.By = 0, 18 }), 5, true},
		"forty steps":                         {withStep(zigzag(40), 3, func(s *impl.FlyStep) { s.Hold = true }), 0, true},
		"41 steps":                            {zigzag(41), 0, false},
		"nothing, by 0":                       {impl.FlyPath{}, 0, false},
		"no kind":                             {changed(func(p *impl.FlyPath) { p.Kind = impl.FlyKind{} }), 0, false},
		"two steps too far apart":             {changed(func(p *impl.FlyPath) { p.Steps[0].X = 3 }), 1, false},
		// Where a shift would make a path ok that is not.
		"ok only behind it, step":       {changed(func(p *impl.FlyPath) { p.Steps[0].From = -1 }), 1, false},
		"ok only behind it, step's By":  {changed(func(p *impl.FlyPath) { p.Steps[2].By = 10001 }), -1, false},
		"ok only behind it, end":        {changed(func(p *impl.FlyPath) { p.From = -1 }), 1, false},
		"ok only behind it, end's By":   {changed(func(p *impl.FlyPath) { p.By = 10001 }), -1, false},
		"ok only when it wraps round":   {oneStep(1, 2, spanOf(math.MinInt, math.MinInt), spanOf(0, 5), false), math.MinInt, false},
		"ok only when it wraps forward": {oneStep(1, 2, spanOf(math.MaxInt, math.MaxInt), spanOf(0, 5), false), -math.MaxInt, false},
	} {
		var want impl.FlyPath
		if c.ok {
			want = plainShift(c.path, c.by)
		}
		if got, ok := impl.FlyShift(c.path, c.by); ok != c.ok || !samePath(got, want) {
			t.Errorf("%s: %v %v, not %v", name, got, ok, want)
		}
	}
}

// tickEnds are the least and the greatest tick that a path names.
func tickEnds(p impl.FlyPath) (int, int) {
	least, most := p.From, p.By
	for _, s := range p.Steps {
		least, most = min(least, s.From), max(most, s.By)
	}
	return least, most
}

// Promise 7.
func TestFlyShiftAndBackIsThePath(t *testing.T) {
	shifted, refused := 0, 0
	fewPaths(7, func(p impl.FlyPath) {
		least, most := tickEnds(p)
		flights := plainFlights(p, nil)
		for _, by := range []int{-3, -2, -1, 0, 1, 2, 400, 9994, 9995, 9996, 9997, 9998, 9999, 10000} {
			there, ok := impl.FlyShift(p, by)
			if want := within(0, least+by, 10000) && within(0, most+by, 10000); ok != want {
				t.Fatalf("%v by %d: %v", p, by, ok)
			}
			if !ok {
				refused++
				continue
			}
			shifted++
			if back, ok := impl.FlyShift(there, -by); !ok || !samePath(back, p) {
				t.Errorf("%v by %d and back: %v %v", p, by, back, ok)
			}
			var want [][]int
			for _, flight := range flights {
				want = append(want, laterBy(flight, by))
			}
			if got := plainFlights(there, nil); !slices.EqualFunc(got, want, slices.Equal) {
				t.Errorf("%v by %d: its flights are %v, not %v", p, by, got, want)
			}
		}
	})
	if shifted < 1000 || refused < 1000 {
		t.Errorf("shifted: %d, refused: %d", shifted, refused)
	}
}

// laterBy is a flight with all ticks so many more.
func laterBy(flight []int, by int) []int {
	var later []int
	for _, tick := range flight {
		later = append(later, tick+by)
	}
	return later
}

func TestFlyShiftOfWildNumbers(t *testing.T) {
	for _, by := range append(wild, 9937, 9938, -10, -11, 10002, -10001) {
		for name, at := range pathNumbers() {
			for _, n := range wild {
				p := threeSteps()
				*at(&p) = n
				var want impl.FlyPath
				some := plainPathOk(p) && within(-10000, by, 10000) && plainPathOk(plainShift(p, by))
				if some {
					want = plainShift(p, by)
				}
				if got, ok := impl.FlyShift(p, by); ok != some || !samePath(got, want) {
					t.Errorf("%s is %d, by %d: %v %v, not %v", name, n, by, got, ok, want)
				}
			}
		}
	}
}

func TestFlyShared(t *testing.T) {
	p := threeSteps()
	first := changed(func(p *impl.FlyPath) { p.Steps = p.Steps[:1] })
	wrong := changed(func(p *impl.FlyPath) { p.Steps[1].X = math.MinInt })
	for name, c := range map[string]struct {
		p, q   impl.FlyPath
		shared int
	}{
		"all":                               {p, threeSteps(), 3},
		"none":                              {p, changed(func(p *impl.FlyPath) { p.Steps[0].X = 3 }), 0},
		"one":                               {p, changed(func(p *impl.FlyPath) { p.Steps[1].By = 31 }), 1},
		"two":                               {p, changed(func(p *impl.FlyPath) { p.Steps[2].Hold = true }), 2},
		"the same behind another":           {p, changed(func(p *impl.FlyPath) { p.Steps[0].Hold = true }), 0},
		"one is the beginning":              {p, first, 1},
		"the beginning, with another step":  {changed(func(p *impl.FlyPath) { p.Steps = append(p.Steps, impl.FlyStep{X: 6}) }), p, 3},
		"a step too few at first":           {p, changed(func(p *impl.FlyPath) { p.Steps = p.Steps[1:] }), 0},
		"other Quick":                       {p, changed(func(p *impl.FlyPath) { p.Kind.Quick = 2 }), 0},
		"other Slow":                        {p, changed(func(p *impl.FlyPath) { p.Kind.Slow = 6 }), 0},
		"own From and By don't count":       {p, changed(func(p *impl.FlyPath) { p.From, p.By = 1, 2 }), 3},
		"nothing and nothing":               {impl.FlyPath{}, impl.FlyPath{}, 0},
		"nothing and a path":                {impl.FlyPath{}, p, 0},
		"no steps and some":                 {impl.FlyPath{Kind: p.Kind, Steps: []impl.FlyStep{}}, p, 0},
		"forty":                             {zigzag(40), zigzag(40), 40},
		"forty but the last":                {zigzag(40), withStep(zigzag(40), 39, func(s *impl.FlyStep) { s.By = 0 }), 39},
		"of paths that are too long":        {zigzag(1001), zigzag(1000), 1000},
		"of a path that is not ok":          {wrong, wrong, 3},
		"of one that is ok and one not":     {p, wrong, 1},
		"of kinds that are not ok":          {changed(func(p *impl.FlyPath) { p.Kind.Slow = 51 }), changed(func(p *impl.FlyPath) { p.Kind.Slow = 51 }), 3},
		"of paths without a flight":         {changed(func(p *impl.FlyPath) { p.By = 18; p.From = 0 }), p, 3},
		"of steps that stand still":         {impl.FlyPath{Steps: make([]impl.FlyStep, 5)}, impl.FlyPath{Steps: make([]impl.FlyStep, 3)}, 3},
		"of numbers that differ by all":     {oneStep(1, 1, spanOf(math.MinInt, math.MaxInt), spanOf(0, 0), false), oneStep(1, 1, spanOf(math.MaxInt, math.MinInt), spanOf(0, 0), false), 0},
		"of the same numbers at both ends":  {oneStep(1, 1, spanOf(math.MinInt, math.MaxInt), spanOf(0, 0), false), oneStep(1, 1, spanOf(math.MinInt, math.MaxInt), spanOf(1, 1), false), 1},
		"of kinds at both ends, the same":   {changed(func(p *impl.FlyPath) { p.Kind.Quick = math.MinInt }), changed(func(p *impl.FlyPath) { p.Kind.Quick = math.MinInt }), 3},
		"of kinds at both ends, the others": {changed(func(p *impl.FlyPath) { p.Kind.Quick = math.MinInt }), changed(func(p *impl.FlyPath) { p.Kind.Quick = math.MaxInt }), 0},
	} {
		if got := impl.FlyShared(c.p, c.q); got != c.shared {
			t.Errorf("%s: %d", name, got)
		}
		if got := impl.FlyShared(c.q, c.p); got != c.shared {
			t.Errorf("%s, the other way round: %d", name, got)
		}
	}
}

// Steps are the same only if each of their parts is, wherever they stand.
func TestFlySharedLooksAtAllOfAStep(t *testing.T) {
	for name, change := range map[string]func(s *impl.FlyStep){
		"X":    func(s *impl.FlyStep) { s.X++ },
		"Y":    func(s *impl.FlyStep) { s.Y++ },
		"Low":  func(s *impl.FlyStep) { s.Low-- },
		"High": func(s *impl.FlyStep) { s.High++ },
		"From": func(s *impl.FlyStep) { s.From++ },
		"By":   func(s *impl.FlyStep) { s.By-- },
		"Hold": func(s *impl.FlyStep) { s.Hold = !s.Hold },
	} {
		for place := range 3 {
			if got := impl.FlyShared(threeSteps(), withStep(threeSteps(), place, change)); got != place {
				t.Errorf("%s of %d: %d", name, place, got)
			}
		}
	}
}

// The paths below are turned to from threeSteps, whose boxes are at 10 to 24,
// 13 to 59 and 16 to 62.

// otherEnd shares its first two steps, and leaves for another cell.
func otherEnd() impl.FlyPath {
	return changed(func(p *impl.FlyPath) {
		p.Steps[2] = impl.FlyStep{X: 6, Y: 5, Low: 3, High: 4, From: 15, By: 40}
		p.By = 43
	})
}

// earlyEnd shares all its steps, and must be left by 30.
func earlyEnd() impl.FlyPath {
	return changed(func(p *impl.FlyPath) { p.By = 30 })
}

// lateEnd shares all its steps, and may not be left ahead of 30.
func lateEnd() impl.FlyPath {
	return changed(func(p *impl.FlyPath) { p.From = 30 })
}

func TestFlyMayTurn(t *testing.T) {
	p := threeSteps()
	held := oneStep(2, 4, spanOf(0, 10000), spanOf(0, 10000), true)
	noFlight := changed(func(p *impl.FlyPath) { p.From, p.By = 0, 18 })
	// There is no flight along its first step, but there is one from its second on.
	laterOnly := changed(func(p *impl.FlyPath) { p.Steps[0].From, p.Steps[0].By = 1, 2 })
	notOk := changed(func(p *impl.FlyPath) { p.By = 10001 })
	for name, c := range map[string]struct {
		p, q impl.FlyPath
		step int
		now  int
		may  bool
	}{
		"itself, first, ahead of its box":      {p, p, 0, 9, false},
		"itself, first, at its In":             {p, p, 0, 10, true},
		"itself, first, at its Out":            {p, p, 0, 24, true},
		"itself, first, behind its Out":        {p, p, 0, 25, false},
		"itself, last, at its Out":             {p, p, 2, 62, true},
		"itself, last, behind its Out":         {p, p, 2, 63, false},
		"a shared step, at its In":             {p, otherEnd(), 0, 10, true},
		"a shared step, at its Out":            {p, otherEnd(), 0, 24, true},
		"the last shared step, at its In":      {p, otherEnd(), 1, 13, true},
		"the last shared step, just in time":   {p, otherEnd(), 1, 39, true},
		"the last shared step, too late":       {p, otherEnd(), 1, 40, false},
		"a step that is not shared":            {p, otherEnd(), 2, 20, false},
		"the same steps, other kind":           {p, changed(func(p *impl.FlyPath) { p.Kind.Slow = 6 }), 0, 12, false},
		"the last who entered is just in time": {p, earlyEnd(), 1, 24, true},
		"the last who entered is too late":     {p, earlyEnd(), 1, 25, false},
		"held too long for the last tick":      {p, earlyEnd(), 2, 28, false},
		"just not too long":                    {p, earlyEnd(), 2, 27, true},
		"the first who entered is too early":   {p, lateEnd(), 2, 28, false},
		"the first who entered is just late":   {p, lateEnd(), 2, 29, true},
		"late, at its Out":                     {p, lateEnd(), 2, 62, true},
		"late, but it may hold":                {p, lateEnd(), 1, 13, true},
		"step below 0":                         {p, p, -1, 12, false},
		"step past the end":                    {p, p, 3, 62, false},
		"step past the other's end":            {p, changed(func(p *impl.FlyPath) { p.Steps = p.Steps[:2] }), 2, 20, false},
		"step in the other's end":              {p, changed(func(p *impl.FlyPath) { p.Steps = p.Steps[:2] }), 1, 20, true},
		"step in the other alone":              {changed(func(p *impl.FlyPath) { p.Steps = p.Steps[:2] }), p, 2, 20, false},
		"step at the least":                    {p, p, math.MinInt, 12, false},
		"step at the greatest":                 {p, p, math.MaxInt, 12, false},
		"now at the least":                     {p, p, 0, math.MinInt, false},
		"now at the greatest":                  {p, p, 0, math.MaxInt, false},
		"now below 0":                          {held, held, 0, -1, false},
		"now 0":                                {held, held, 0, 0, true},
		"now one ahead of the last tick":       {held, held, 0, 9999, true},
		"now at the last tick":                 {held, held, 0, 10000, false},
		"now one past the last tick":           {held, held, 0, 10001, false},
		"p not ok":                             {notOk, p, 0, 12, false},
		"q not ok":                             {p, notOk, 0, 12, false},
		"both not ok":                          {notOk, notOk, 0, 12, false},
		"both nothing":                         {impl.FlyPath{}, impl.FlyPath{}, 0, 0, false},
		"no flight along p":                    {noFlight, p, 0, 12, false},
		"no flight along p's first step":       {laterOnly, laterOnly, 1, 20, false},
		"no flight along q":                    {p, noFlight, 0, 12, false},
		"no flight along q from here on":       {p, noFlight, 2, 17, false},
		"no flight along p or q":               {noFlight, noFlight, 0, 12, false},
		"a step of q behind it is not ok":      {p, changed(func(p *impl.FlyPath) { p.Steps[2].High = 7 }), 0, 12, false},
		"a later step can't be reached":        {p, changed(func(p *impl.FlyPath) { p.Steps[2].By = 15 }), 1, 20, false},
		"the last of forty":                    {zigzag(40), zigzag(40), 39, 9999, true},
		"the place behind forty":               {zigzag(40), zigzag(40), 40, 9999, false},
		"41 steps":                             {zigzag(41), zigzag(41), 3, 50, false},
	} {
		if got := impl.FlyMayTurn(c.p, c.q, c.step, c.now); got != c.may {
			t.Errorf("%s: %v", name, got)
		}
	}
}

func TestFlyTurnBy(t *testing.T) {
	p := threeSteps()
	held := oneStep(2, 4, spanOf(0, 10000), spanOf(0, 10000), true)
	point := oneStep(1, 1, spanOf(5, 5), spanOf(0, 10000), false)
	noFlight := changed(func(p *impl.FlyPath) { p.From, p.By = 0, 18 })
	notOk := changed(func(p *impl.FlyPath) { p.By = 10001 })
	for name, c := range map[string]struct {
		p, q impl.FlyPath
		from int
		by   int
	}{
		"itself, ahead of the first box":           {p, p, 9, -1},
		"itself, at its In":                        {p, p, 10, 62},
		"itself, from where there are more boxes":  {p, p, 20, 62},
		"itself, from behind the first box":        {p, p, 25, 62},
		"itself, at the last tick of the last box": {p, p, 62, 62},
		"itself, one behind it":                    {p, p, 63, -1},
		"itself, from 0":                           {p, p, 0, -1},
		"up to a box that is not shared":           {p, otherEnd(), 10, 15},
		"from the tick ahead of that box":          {p, otherEnd(), 15, 15},
		"from that box on":                         {p, otherEnd(), 16, -1},
		"where only that box is":                   {p, otherEnd(), 61, -1},
		"up to where the first box fails":          {p, earlyEnd(), 10, 23},
		"from just ahead of that":                  {p, earlyEnd(), 23, 23},
		"from where the first box fails":           {p, earlyEnd(), 24, -1},
		"from where the second one fails":          {p, earlyEnd(), 25, -1},
		"up to a box that fails at first":          {p, lateEnd(), 10, 15},
		"from where it fails":                      {p, lateEnd(), 16, -1},
		"from where it fails last":                 {p, lateEnd(), 28, -1},
		"from where it fails no more":              {p, lateEnd(), 29, 62},
		"late, from the last tick":                 {p, lateEnd(), 62, 62},
		"to the beginning of it":                   {p, changed(func(p *impl.FlyPath) { p.Steps = p.Steps[:2] }), 10, 15},
		"other kind":                               {p, changed(func(p *impl.FlyPath) { p.Kind.Slow = 6 }), 10, -1},
		"no step shared":                           {p, changed(func(p *impl.FlyPath) { p.Steps[0].By = 21 }), 10, -1},
		"all ticks, from 0":                        {held, held, 0, 9999},
		"all ticks, from below 0":                  {held, held, -1, -1},
		"all ticks, from one ahead of the last":    {held, held, 9999, 9999},
		"all ticks, from the last":                 {held, held, 10000, -1},
		"all ticks, from one past the last":        {held, held, 10001, -1},
		"from the least":                           {held, held, math.MinInt, -1},
		"from the greatest":                        {held, held, math.MaxInt, -1},
		"one tick, ahead of it":                    {point, point, 4, -1},
		"one tick, at it":                          {point, point, 5, 5},
		"one tick, behind it":                      {point, point, 6, -1},
		"p not ok":                                 {notOk, p, 10, -1},
		"q not ok":                                 {p, notOk, 10, -1},
		"q not ok, ahead of the first box":         {p, notOk, 0, -1},
		"both not ok":                              {notOk, notOk, 10, -1},
		"both nothing":                             {impl.FlyPath{}, impl.FlyPath{}, 0, -1},
		"no flight along p":                        {noFlight, p, 10, -1},
		"no flight along q":                        {p, noFlight, 10, -1},
		"no flight along p or q":                   {noFlight, noFlight, 10, -1},
		"forty steps":                              {zigzag(40), zigzag(40), 0, 9999},
		"forty steps, another end":                 {zigzag(40), withStep(zigzag(40), 39, func(s *impl.FlyStep) { s.Hold = true }), 0, 38},
		"forty steps, the end a tick early":        {zigzag(40), changed40(func(p *impl.FlyPath) { p.By = 9999 }), 0, 9959},
		"41 steps":                                 {zigzag(41), zigzag(41), 50, -1},
	} {
		if got := impl.FlyTurnBy(c.p, c.q, c.from); got != c.by {
			t.Errorf("%s: %d", name, got)
		}
	}
}

// changed40 is zigzag of forty steps with a change.
func changed40(change func(p *impl.FlyPath)) impl.FlyPath {
	p := zigzag(40)
	change(&p)
	return p
}

// Forty boxes at nearly each of all ticks, held in or not.
func TestFlyTurnByOfTheWidestPath(t *testing.T) {
	wide := zigzag(40)
	for place := range wide.Steps {
		wide.Steps[place].Hold = true
	}
	for _, from := range []int{0, 1, 38, 39, 5000, 9959, 9960, 9999} {
		if got := impl.FlyTurnBy(wide, wide, from); got != 9999 {
			t.Errorf("from %d: %d", from, got)
		}
	}
	short := wide
	short.By = 7000
	if got := impl.FlyTurnBy(wide, short, 0); got != 6960 {
		t.Errorf("to one that ends at 7000: %d", got)
	}
}

// anyFlight says whether there is a flight along a path, by all ticks at which
// each of its steps can be entered.
func anyFlight(p impl.FlyPath) bool {
	if !plainPathOk(p) {
		return false
	}
	entered := ticksUp(p.Steps[0].From, p.Steps[0].By-p.Steps[0].From+1)
	for place, s := range p.Steps {
		from, by := p.From, p.By
		if place+1 < len(p.Steps) {
			from, by = p.Steps[place+1].From, p.Steps[place+1].By
		}
		var left []int
		for tick := from; tick <= by; tick++ {
			if slices.ContainsFunc(entered, func(e int) bool {
				return e+p.Kind.Quick <= tick && (s.Hold || tick <= e+p.Kind.Slow)
			}) {
				left = append(left, tick)
			}
		}
		entered = left
	}
	return len(entered) > 0
}

// plainShared counts the steps that two paths share, from the first on.
func plainShared(p impl.FlyPath, q impl.FlyPath) int {
	shared := 0
	for place := range p.Steps {
		if p.Kind == q.Kind && shared == place && place < len(q.Steps) && p.Steps[place] == q.Steps[place] {
			shared++
		}
	}
	return shared
}

// plainTurn looks at the flights of p one by one, at each entry that one of
// them has, and at each tick.
type plainTurn struct {
	p       impl.FlyPath
	q       impl.FlyPath
	flights [][]int
}

// entries are the ticks at which those entered who are in a step now.
func (c plainTurn) entries(step int, now int) []int {
	var ticks []int
	for _, flight := range c.flights {
		if where, ok := plainWhere(flight, now); ok && where == step {
			ticks = append(ticks, flight[step])
		}
	}
	slices.Sort(ticks)
	return slices.Compact(ticks)
}

func (c plainTurn) may(step int, now int) bool {
	entries := c.entries(step, now)
	if len(entries) == 0 || plainShared(c.p, c.q) <= step {
		return false
	}
	for _, entered := range entries {
		if _, ok := plainRest(c.q, step, entered, now, anyFlight); !ok {
			return false
		}
	}
	return true
}

// allMay says whether somebody may be under way now, and all who may can turn.
func (c plainTurn) allMay(now int) bool {
	somebody := false
	for step := range c.p.Steps {
		if len(c.entries(step, now)) > 0 {
			somebody = true
			if !c.may(step, now) {
				return false
			}
		}
	}
	return somebody
}

func (c plainTurn) by(from int) int {
	last := -1
	for now := from; within(0, now, 10000) && c.allMay(now); now++ {
		last = now
	}
	return last
}

// pathPairs are some pairs of paths of up to four steps, many of which share
// their first ones and can be turned to at some ticks.
func pathPairs(count int, each func(c plainTurn)) {
	dice := uint32(7)
	roll := func(below int) int {
		dice = dice*1664525 + 1013904223
		return int(dice>>16) % below
	}
	rolled := func(place int, k impl.FlyKind, y int) impl.FlyStep {
		from := place*k.Quick + roll(3)
		return impl.FlyStep{X: place, Y: y, High: 1, From: from, By: from + roll(5), Hold: roll(5) == 0}
	}
	for range count {
		k := impl.FlyKind{Quick: 1 + roll(2)}
		k.Slow = k.Quick + roll(3)
		p := impl.FlyPath{Kind: k}
		for place := range 1 + roll(4) {
			p.Steps = append(p.Steps, rolled(place, k, 1))
		}
		p.From = len(p.Steps)*k.Quick + roll(3)
		p.By = p.From + roll(6)
		q := impl.FlyPath{Kind: k, Steps: slices.Clone(p.Steps), From: p.From, By: p.By}
		q.Steps = q.Steps[:roll(len(q.Steps)+1)]
		for place := len(q.Steps); place < 4 && roll(3) > 0; place++ {
			q.Steps = append(q.Steps, rolled(place, k, 1+roll(2)))
		}
		q.From = max(0, q.From-2+roll(5))
		q.By = q.From + roll(6)
		if roll(20) == 0 {
			q.Kind.Slow++
		}
		if roll(20) == 0 {
			q.By = q.From - 1
		}
		each(plainTurn{p: p, q: q, flights: plainFlights(p, nil)})
	}
}

// Promise 6: FlyMayTurn is true just where FlyRest of the other path leaves
// something for each entry of those who may be there.
func TestFlyMayTurnAsksForEachEntry(t *testing.T) {
	may, not := 0, 0
	pathPairs(2000, func(c plainTurn) {
		if len(c.flights) == 0 {
			return
		}
		for step := -1; step <= 4; step++ {
			for now := -1; now <= 16; now++ {
				got := impl.FlyMayTurn(c.p, c.q, step, now)
				if got != c.may(step, now) {
					t.Errorf("%v to %v, step %d now %d: %v", c.p, c.q, step, now, got)
				}
				if !got {
					not++
					continue
				}
				may++
				for _, entered := range c.entries(step, now) {
					if _, ok := impl.FlyRest(c.q, step, entered, now); !ok {
						t.Errorf("%v to %v, step %d now %d: nothing is left for %d", c.p, c.q, step, now, entered)
					}
				}
			}
		}
	})
	if may < 1000 || not < 1000 {
		t.Errorf("may: %d, may not: %d", may, not)
	}
}

// Promise 6: up to FlyTurnBy all can turn, wherever they may be, and not one
// tick later.
func TestFlyTurnByOfManyPairs(t *testing.T) {
	none, some, toTheEnd, many := 0, 0, 0, 0
	pathPairs(8000, func(c plainTurn) {
		tube := impl.FlyTube(c.p)
		for from := -1; from <= 16; from++ {
			got, want := impl.FlyTurnBy(c.p, c.q, from), c.by(from)
			if got != want {
				t.Errorf("%v to %v from %d: %d, not %d", c.p, c.q, from, got, want)
			}
			if got == -1 {
				none++
				continue
			}
			if got == tube[len(tube)-1].Out {
				toTheEnd++
			} else {
				some++
			}
			if len(tube) > 1 && tube[0].In <= from && from <= tube[0].Out && tube[1].In <= from {
				many++
			}
		}
	})
	if none < 500 || some < 500 || toTheEnd < 500 || many < 200 {
		t.Errorf("none: %d, some: %d, to the end: %d, from more than one box: %d", none, some, toTheEnd, many)
	}
}

func TestFlyMayTurnAndFlyTurnByOfWildNumbers(t *testing.T) {
	p := threeSteps()
	var flown [][]int
	spans, _ := impl.FlySpans(p)
	for first := spans[0].Low; first <= spans[0].High; first++ {
		for second := first + 3; second <= min(30, first+5); second++ {
			for third := max(16, second+3); third <= 60; third++ {
				for end := max(20, third+3); end <= min(63, third+5); end++ {
					flown = append(flown, []int{first, second, third, end})
				}
			}
		}
	}
	for _, q := range []impl.FlyPath{threeSteps(), otherEnd(), earlyEnd(), lateEnd(), {}} {
		c := plainTurn{p: p, q: q, flights: flown}
		for _, now := range wild {
			for _, step := range wild {
				if got := impl.FlyMayTurn(p, q, step, now); got != c.may(step, now) {
					t.Errorf("to %v, step %d now %d: %v", q, step, now, got)
				}
			}
			if got, want := impl.FlyTurnBy(p, q, now), c.by(now); got != want {
				t.Errorf("to %v from %d: %d, not %d", q, now, got, want)
			}
		}
	}
}

// Each number of p, or of q, in turn is made wild: every function answers, and
// turns to nothing that is not ok.
func TestFlyTurningOfWildPaths(t *testing.T) {
	for name, at := range pathNumbers() {
		for _, n := range wild {
			w := threeSteps()
			*at(&w) = n
			for _, pair := range [][]impl.FlyPath{{w, threeSteps()}, {threeSteps(), w}, {w, w}} {
				p, q := pair[0], pair[1]
				ok := plainPathOk(p) && plainPathOk(q)
				if got := impl.FlyShared(p, q); got != plainShared(p, q) {
					t.Errorf("%s is %d: %d shared", name, n, got)
				}
				for _, from := range wild {
					may := impl.FlyMayTurn(p, q, 0, from)
					by := impl.FlyTurnBy(p, q, from)
					if !ok && (may || by != -1) || by != -1 && !within(from, by, 9999) {
						t.Errorf("%s is %d, from %d: %v, %d", name, n, from, may, by)
					}
				}
			}
		}
	}
}

func TestFlyTurningWritesAndKeepsNothing(t *testing.T) {
	roomP := append(threeSteps().Steps, impl.FlyStep{X: 9}, impl.FlyStep{X: 8})
	roomQ := append(earlyEnd().Steps, impl.FlyStep{X: 7}, impl.FlyStep{X: 6})
	keptP, keptQ := slices.Clone(roomP), slices.Clone(roomQ)
	p, q := threeSteps(), earlyEnd()
	p.Steps, q.Steps = roomP[:3], roomQ[:3]
	for _, by := range []int{0, 5, -5, 9938} {
		shifted, ok := impl.FlyShift(p, by)
		if ok != (by < 9938) {
			t.Errorf("by %d: %v", by, ok)
		}
		spare := shifted.Steps[:cap(shifted.Steps)]
		for i := range spare {
			spare[i] = impl.FlyStep{X: -1}
		}
	}
	for range 2 {
		if impl.FlyShared(p, q) != 3 || impl.FlyMayTurn(p, q, 1, 25) || !impl.FlyMayTurn(p, q, 1, 24) || impl.FlyTurnBy(p, q, 10) != 23 {
			t.Error("it answers otherwise")
		}
	}
	if !reflect.DeepEqual(roomP, keptP) || !reflect.DeepEqual(roomQ, keptQ) {
		t.Errorf("steps are %v and %v", roomP, roomQ)
	}
}
