package tests

import (
	"math"
	"reflect"
	"slices"
	"testing"

	"loop.example/laplink/impl"
)

func TestFlyTube(t *testing.T) {
	type list = []impl.FlyBox
	whole := spanOf(0, impl.FlyMaxTick)
	for name, c := range map[string]struct {
		path impl.FlyPath
		tube []impl.FlyBox
	}{
		"ordinary": {threeSteps(), list{
			{X: 4, Y: 4, Low: 1, High: 2, In: 10, Out: 24},
			{X: 5, Y: 4, Low: 2, High: 3, In: 13, Out: 59},
			{X: 5, Y: 5, Low: 3, High: 4, In: 16, Out: 62}}},
		"end wider than what is left": {changed(func(p *impl.FlyPath) { p.From, p.By = 0, 10000 }), list{
			{X: 4, Y: 4, Low: 1, High: 2, In: 10, Out: 24},
			{X: 5, Y: 4, Low: 2, High: 3, In: 13, Out: 59},
			{X: 5, Y: 5, Low: 3, High: 4, In: 16, Out: 64}}},
		"just one flight": {changed(func(p *impl.FlyPath) { p.From, p.By = 0, 19 }), list{
			{X: 4, Y: 4, Low: 1, High: 2, In: 10, Out: 12},
			{X: 5, Y: 4, Low: 2, High: 3, In: 13, Out: 15},
			{X: 5, Y: 5, Low: 3, High: 4, In: 16, Out: 18}}},
		"last step held": {changed(func(p *impl.FlyPath) { p.Steps[1].Hold, p.Steps[2].Hold = false, true }), list{
			{X: 4, Y: 4, Low: 1, High: 2, In: 10, Out: 24},
			{X: 5, Y: 4, Low: 2, High: 3, In: 13, Out: 29},
			{X: 5, Y: 5, Low: 3, High: 4, In: 16, Out: 62}}},
		"no flight":              {changed(func(p *impl.FlyPath) { p.From, p.By = 0, 18 }), nil},
		"not ok":                 {changed(func(p *impl.FlyPath) { p.By = 10001 }), nil},
		"nothing":                {impl.FlyPath{}, nil},
		"one step":               {oneStep(2, 4, spanOf(5, 9), whole, false), list{{X: 7, Y: 8, Low: 2, High: 4, In: 5, Out: 12}}},
		"one step, held":         {oneStep(2, 4, spanOf(5, 9), whole, true), list{{X: 7, Y: 8, Low: 2, High: 4, In: 5, Out: 9999}}},
		"one step, Quick = Slow": {oneStep(3, 3, spanOf(5, 5), whole, false), list{{X: 7, Y: 8, Low: 2, High: 4, In: 5, Out: 7}}},
		"one step of one tick":   {oneStep(1, 1, spanOf(0, 0), whole, false), list{{X: 7, Y: 8, Low: 2, High: 4}}},
		"one step, no flight":    {oneStep(2, 4, spanOf(5, 9), spanOf(14, 20), false), nil},
	} {
		if got := impl.FlyTube(c.path); !slices.Equal(got, c.tube) {
			t.Errorf("%s: %v, not %v", name, got, c.tube)
		}
	}
}

func TestFlyTubeOfManySteps(t *testing.T) {
	tube := impl.FlyTube(zigzag(40))
	if len(tube) != 40 || len(impl.FlyTube(zigzag(41))) != 0 {
		t.Fatalf("%d boxes of 40 steps", len(tube))
	}
	for place, got := range tube {
		if want := (impl.FlyBox{X: place % 2, Y: 3, In: place, Out: 9960 + place}); got != want {
			t.Errorf("%d: %v, not %v", place, got, want)
		}
	}
}

// Promise 3, of boxes: the ticks of a box are just those at which some flight
// is in its step.
func TestFlyTubeIsTight(t *testing.T) {
	try := func(p impl.FlyPath) {
		tube := impl.FlyTube(p)
		flights := plainFlights(p, nil)
		if (len(flights) > 0) != (len(tube) > 0) || len(tube) > 0 && len(tube) != len(p.Steps) {
			t.Fatalf("%v: %v", p, tube)
		}
		for place, box := range tube {
			s := p.Steps[place]
			if box.X != s.X || box.Y != s.Y || box.Low != s.Low || box.High != s.High {
				t.Errorf("%v: the box of %d is %v", p, place, box)
			}
			for tick := -1; tick <= 12; tick++ {
				there := slices.ContainsFunc(flights, func(flight []int) bool {
					where, ok := plainWhere(flight, tick)
					return ok && where == place
				})
				if there != within(box.In, tick, box.Out) {
					t.Errorf("%v: a flight is in %d at %d: %v, the box is %v", p, place, tick, there, box)
				}
			}
		}
	}
	smallPaths(try)
	longerPaths(try)
}

func TestFlyTubeOfWildNumbers(t *testing.T) {
	for name, at := range pathNumbers() {
		for _, n := range wild {
			p := threeSteps()
			*at(&p) = n
			_, ok := impl.FlySpans(p)
			if tube := impl.FlyTube(p); len(tube) > 0 != ok || ok && len(tube) != 3 {
				t.Errorf("%s is %d: %v", name, n, tube)
			}
		}
	}
}

func TestFlyTubeWritesAndKeepsNothing(t *testing.T) {
	room := append(threeSteps().Steps, impl.FlyStep{X: 9}, impl.FlyStep{X: 8})
	kept := slices.Clone(room)
	p := threeSteps()
	p.Steps = room[:3]
	tube := impl.FlyTube(p)
	want := slices.Clone(tube)
	for i := range tube[:cap(tube)] {
		tube[:cap(tube)][i] = impl.FlyBox{X: -1}
	}
	if again := impl.FlyTube(p); !slices.Equal(again, want) {
		t.Errorf("behind a change it is %v", again)
	}
	if !reflect.DeepEqual(room, kept) {
		t.Errorf("steps are %v", room)
	}
}

// someBox is a box with room on all sides.
var someBox = impl.FlyBox{X: 3, Y: 5, Low: 2, High: 4, In: 10, Out: 20}

func TestFlyWithin(t *testing.T) {
	least, most := math.MinInt, math.MaxInt
	type list = []impl.FlyBox
	for name, c := range map[string]struct {
		tube              []impl.FlyBox
		x, y, level, tick int
		ok                bool
	}{
		"in the middle":         {list{someBox}, 3, 5, 3, 15, true},
		"least of all":          {list{someBox}, 3, 5, 2, 10, true},
		"greatest of all":       {list{someBox}, 3, 5, 4, 20, true},
		"X one less":            {list{someBox}, 2, 5, 3, 15, false},
		"X one more":            {list{someBox}, 4, 5, 3, 15, false},
		"Y one less":            {list{someBox}, 3, 4, 3, 15, false},
		"Y one more":            {list{someBox}, 3, 6, 3, 15, false},
		"X and Y turned":        {list{someBox}, 5, 3, 3, 15, false},
		"below Low":             {list{someBox}, 3, 5, 1, 15, false},
		"above High":            {list{someBox}, 3, 5, 5, 15, false},
		"ahead of In":           {list{someBox}, 3, 5, 3, 9, false},
		"behind Out":            {list{someBox}, 3, 5, 3, 21, false},
		"nil":                   {nil, 3, 5, 3, 15, false},
		"no boxes":              {list{}, 0, 0, 0, 0, false},
		"one point":             {list{{}}, 0, 0, 0, 0, true},
		"beside one point":      {list{{}}, 0, 0, 0, 1, false},
		"Low above High":        {list{{Low: 4, High: 2, Out: 9}}, 0, 0, 3, 5, false},
		"Low above High, Low":   {list{{Low: 4, High: 3, Out: 9}}, 0, 0, 4, 5, false},
		"Low above High, High":  {list{{Low: 4, High: 3, Out: 9}}, 0, 0, 3, 5, false},
		"In above Out":          {list{{High: 4, In: 9, Out: 2}}, 0, 0, 3, 5, false},
		"In above Out, In":      {list{{High: 4, In: 9, Out: 8}}, 0, 0, 3, 9, false},
		"In above Out, Out":     {list{{High: 4, In: 9, Out: 8}}, 0, 0, 3, 8, false},
		"the second of a cell":  {list{{In: 1, Out: 2}, {In: 5, Out: 6}}, 0, 0, 0, 5, true},
		"the first of a cell":   {list{{In: 1, Out: 2}, {In: 5, Out: 6}}, 0, 0, 0, 2, true},
		"between two":           {list{{In: 1, Out: 2}, {In: 5, Out: 6}}, 0, 0, 0, 3, false},
		"level and tick of two": {list{{In: 1, Out: 2}, {Low: 1, High: 1, In: 5, Out: 6}}, 0, 0, 1, 2, false},
		"in another cell":       {list{{X: 1, Out: 9}, {Y: 1, Out: 9}}, 1, 1, 0, 5, false},
		"behind another cell":   {list{{X: 1, Out: 9}, {Y: 1, Out: 9}}, 0, 1, 0, 5, true},
		"all below 0":           {list{{X: -3, Y: -2, Low: -9, High: -8, In: -7, Out: -6}}, -3, -2, -8, -7, true},
		"whole of int, low":     {list{{X: least, Y: most, Low: least, High: most, In: least, Out: most}}, least, most, least, least, true},
		"whole of int, high":    {list{{X: least, Y: most, Low: least, High: most, In: least, Out: most}}, least, most, most, most, true},
		"int turned":            {list{{Low: most, High: least, In: most, Out: least}}, 0, 0, 0, 0, false},
		"far X":                 {list{{X: least, High: 1, Out: 1}}, most, 0, 0, 0, false},
		"far tick":              {list{{High: 1, In: most - 1, Out: most}}, 0, 0, 0, least, false},
	} {
		if got := impl.FlyWithin(c.tube, c.x, c.y, c.level, c.tick); got != c.ok {
			t.Errorf("%s: %v", name, got)
		}
	}
}

// plainWithin says chapter 5 once more, word by word.
func plainWithin(tube []impl.FlyBox, x int, y int, level int, tick int) bool {
	found := false
	for _, b := range tube {
		found = found || b.X == x && b.Y == y && within(b.Low, level, b.High) && within(b.In, tick, b.Out)
	}
	return found
}

// boxNumbers are the places of all numbers of a box.
func boxNumbers(b *impl.FlyBox) []*int {
	return []*int{&b.X, &b.Y, &b.Low, &b.High, &b.In, &b.Out}
}

func TestFlyWithinOfWildNumbers(t *testing.T) {
	for place := range 6 {
		for _, n := range wild {
			box := someBox
			*boxNumbers(&box)[place] = n
			tube := []impl.FlyBox{box}
			for _, at := range wild {
				for _, q := range [][]int{{at, 5, 3, 15}, {3, at, 3, 15}, {3, 5, at, 15}, {3, 5, 3, at}} {
					got := impl.FlyWithin(tube, q[0], q[1], q[2], q[3])
					if want := plainWithin(tube, q[0], q[1], q[2], q[3]); got != want {
						t.Errorf("%v in %v: %v", q, tube, got)
					}
				}
			}
		}
	}
}

// A path that comes back to a cell has more than one box there.
func TestFlyWithinOfATube(t *testing.T) {
	p := zigzag(6)
	p.Steps[0].By = 0
	tube := impl.FlyTube(p)
	for x := -1; x <= 2; x++ {
		for tick := -1; tick <= 7; tick++ {
			want := within(0, tick, 5) && x == tick%2
			if got := impl.FlyWithin(tube, x, 3, 0, tick); got != want {
				t.Errorf("%d at %d: %v", x, tick, got)
			}
		}
	}
	for name, c := range spanCases() {
		tube := impl.FlyTube(c.path)
		first := impl.FlyFirst(c.path)
		for place, s := range c.path.Steps[:len(tube)] {
			for level := s.Low - 1; level <= s.High+1; level++ {
				if got := impl.FlyWithin(tube[place:place+1], s.X, s.Y, level, first[place]); got != within(s.Low, level, s.High) {
					t.Errorf("%s: step %d, level %d: %v", name, place, level, got)
				}
			}
		}
	}
}

func TestFlySmaller(t *testing.T) {
	type list = []impl.FlyBox
	point := impl.FlyBox{}
	for name, c := range map[string]struct {
		a, b []impl.FlyBox
		ok   bool
	}{
		"none in none":                    {nil, nil, true},
		"empty in empty":                  {list{}, list{}, true},
		"none in one":                     {nil, list{someBox}, true},
		"one in none":                     {list{someBox}, nil, false},
		"a point in none":                 {list{point}, nil, false},
		"the same":                        {list{someBox}, list{someBox}, true},
		"nothing by levels":               {list{{Low: 1}}, nil, true},
		"nothing by ticks":                {list{{In: 1}}, nil, true},
		"nothing by both":                 {list{{Low: 1, In: 1}}, nil, true},
		"nothing far off":                 {list{{X: 9, Low: 1}}, list{someBox}, true},
		"nothing, then something":         {list{{Low: 1}, someBox}, nil, false},
		"something, then nothing":         {list{someBox, {Low: 1}}, list{someBox}, true},
		"in nothing by levels":            {list{point}, list{{Low: 1}}, false},
		"in nothing by ticks":             {list{point}, list{{In: 1}}, false},
		"one level in nothing":            {list{{Low: 1, High: 1}}, list{{Low: 1, High: 0}}, false},
		"one tick in nothing":             {list{{In: 1, Out: 1}}, list{{In: 1, Out: 0}}, false},
		"in the second":                   {list{someBox}, list{point, someBox}, true},
		"in the first":                    {list{someBox}, list{someBox, point}, true},
		"in the second of its cell":       {list{{In: 5, Out: 6}}, list{{In: 1, Out: 2}, {In: 5, Out: 6}}, true},
		"in two together":                 {list{{In: 1, Out: 6}}, list{{In: 1, Out: 3}, {In: 4, Out: 6}}, false},
		"levels in two together":          {list{{High: 3}}, list{{High: 1}, {Low: 2, High: 3}}, false},
		"levels of one, ticks of another": {list{{High: 3, Out: 3}}, list{{High: 3}, {Out: 3}}, false},
		"two in one":                      {list{{In: 1, Out: 2}, {In: 4, Out: 6}}, list{{Out: 9}}, true},
		"the second is not":               {list{{In: 1, Out: 2}, {In: 4, Out: 10}}, list{{Out: 9}}, false},
		"the first is not":                {list{{In: -1, Out: 2}, {In: 4, Out: 9}}, list{{Out: 9}}, false},
		"other order":                     {list{{X: 1}, {X: 2}}, list{{X: 2}, {X: 1}}, true},
		"the same one twice":              {list{someBox, someBox}, list{someBox}, true},
	} {
		if got := impl.FlySmaller(c.a, c.b); got != c.ok {
			t.Errorf("%s: %v", name, got)
		}
	}
}

// Each number of a box met exactly, one inside, and missed by one.
func TestFlySmallerAtEachBound(t *testing.T) {
	for place, inside := range []int{0, 0, 1, -1, 1, -1} {
		for _, off := range []int{-1, 0, 1} {
			box := someBox
			*boxNumbers(&box)[place] += off
			want := off == 0 || off == inside
			if got := impl.FlySmaller([]impl.FlyBox{box}, []impl.FlyBox{someBox}); got != want {
				t.Errorf("%v in %v: %v", box, someBox, got)
			}
		}
	}
}

// plainSmaller says chapter 5 once more, word by word.
func plainSmaller(a []impl.FlyBox, b []impl.FlyBox) bool {
	for _, x := range a {
		found := x.Low > x.High || x.In > x.Out
		for _, y := range b {
			found = found || x.X == y.X && x.Y == y.Y &&
				within(y.Low, x.Low, y.High) && within(y.Low, x.High, y.High) &&
				within(y.In, x.In, y.Out) && within(y.In, x.Out, y.Out)
		}
		if !found {
			return false
		}
	}
	return true
}

func TestFlySmallerOfEverySmallBox(t *testing.T) {
	var boxes []impl.FlyBox
	for code := range 3 * 3 * 3 * 3 {
		boxes = append(boxes, impl.FlyBox{Low: code % 3, High: code / 3 % 3, In: code / 9 % 3, Out: code / 27})
	}
	for _, a := range boxes {
		for _, b := range boxes {
			one, other := []impl.FlyBox{a}, []impl.FlyBox{b}
			if got, want := impl.FlySmaller(one, other), plainSmaller(one, other); got != want {
				t.Errorf("%v in %v: %v", a, b, got)
			}
		}
	}
}

func TestFlySmallerOfWildNumbers(t *testing.T) {
	for place := range 6 {
		for other := range 6 {
			for _, n := range wild {
				for _, m := range wild {
					a, b := someBox, someBox
					*boxNumbers(&a)[place] = n
					*boxNumbers(&b)[other] = m
					if got, want := impl.FlySmaller([]impl.FlyBox{a}, []impl.FlyBox{b}), plainSmaller([]impl.FlyBox{a}, []impl.FlyBox{b}); got != want {
						t.Errorf("%v in %v: %v", a, b, got)
					}
				}
			}
		}
	}
}

// A narrower path has a smaller tube.
func TestFlySmallerOfTubes(t *testing.T) {
	wide := impl.FlyTube(threeSteps())
	narrow := impl.FlyTube(changed(func(p *impl.FlyPath) { p.By = 40 }))
	if !impl.FlySmaller(narrow, wide) || impl.FlySmaller(wide, narrow) || !impl.FlySmaller(wide, wide) {
		t.Errorf("%v and %v", narrow, wide)
	}
	if none := impl.FlyTube(impl.FlyPath{}); !impl.FlySmaller(none, narrow) || impl.FlySmaller(narrow, none) {
		t.Error("a tube of nothing")
	}
}

func TestFlyWithinAndFlySmallerWriteNothing(t *testing.T) {
	a := []impl.FlyBox{someBox, {X: 1, Low: 3}, {X: 9}, {X: 8}}
	b := []impl.FlyBox{{X: 2}, someBox, {X: 7}, {X: 6}}
	keptA, keptB := slices.Clone(a), slices.Clone(b)
	impl.FlyWithin(a[:2], 3, 5, 3, 15)
	impl.FlySmaller(a[:2], b[:2])
	if !slices.Equal(a, keptA) || !slices.Equal(b, keptB) {
		t.Errorf("boxes are %v and %v", a, b)
	}
}
