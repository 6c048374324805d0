package tests

import (
	"slices"
	"testing"

	"loop.example/laplink/impl"
)

// at is a box of one cell and level, from a tick to another.
func at(x int, in int, out int) impl.ProbeBox {
	return impl.ProbeBox{X: x, In: in, Out: out}
}

func TestProbeMeet(t *testing.T) {
	type list = []impl.ProbeBox
	for name, c := range map[string]struct {
		a, b       list
		tick, i, j int
		near       bool
	}{
		"one and one":                         {list{at(3, 5, 9)}, list{at(4, 7, 12)}, 7, 0, 0, true},
		"too far apart":                       {list{at(3, 5, 9)}, list{at(5, 7, 12)}, 0, 0, 0, false},
		"one ends where the other begins":     {list{at(3, 5, 9)}, list{at(3, 9, 12)}, 9, 0, 0, true},
		"one ends one tick ahead":             {list{at(3, 5, 9)}, list{at(3, 10, 12)}, 0, 0, 0, false},
		"other levels":                        {list{{High: 2}}, list{{Low: 3, High: 6}}, 0, 0, 0, false},
		"levels that touch":                   {list{{High: 3}}, list{{Low: 3, High: 6}}, 0, 0, 0, true},
		"the later box comes first":           {list{at(3, 8, 9), at(3, 2, 4)}, list{at(3, 0, 20)}, 2, 1, 0, true},
		"the other's later box comes first":   {list{at(3, 0, 20)}, list{at(3, 8, 9), at(3, 2, 4)}, 2, 0, 1, true},
		"the last pair comes first":           {list{at(3, 8, 9), at(7, 2, 4)}, list{at(3, 5, 20), at(7, 4, 6)}, 4, 1, 1, true},
		"the first pair comes first":          {list{at(3, 1, 9), at(7, 2, 4)}, list{at(3, 1, 20), at(7, 4, 6)}, 1, 0, 0, true},
		"several of a at one tick":            {list{at(9, 0, 9), at(3, 5, 9), at(4, 5, 9)}, list{at(3, 5, 9)}, 5, 1, 0, true},
		"several of b at one tick":            {list{at(3, 5, 9)}, list{at(9, 0, 9), at(4, 5, 9), at(3, 5, 9)}, 5, 0, 1, true},
		"several of both at one tick":         {list{at(3, 5, 9), at(3, 5, 9)}, list{at(3, 5, 9), at(3, 5, 9)}, 5, 0, 0, true},
		"the least I, though its J is more":   {list{at(3, 5, 9), at(8, 5, 9)}, list{at(8, 5, 9), at(3, 5, 9)}, 5, 0, 1, true},
		"the same from the other side":        {list{at(8, 5, 9), at(3, 5, 9)}, list{at(3, 5, 9), at(8, 5, 9)}, 5, 0, 1, true},
		"an earlier one behind several":       {list{at(3, 5, 9), at(3, 5, 9), at(8, 4, 9)}, list{at(3, 5, 9), at(8, 4, 4)}, 4, 2, 1, true},
		"several at a tick that is no start":  {list{at(3, 0, 9), at(8, 0, 9)}, list{at(13, 0, 1), at(8, 6, 7), at(3, 6, 7)}, 6, 0, 2, true},
		"one begins ahead of all, far off":    {list{at(14, 0, 0), at(3, 5, 9)}, list{at(3, 7, 8), at(4, 6, 9), at(2, 6, 9)}, 6, 1, 1, true},
		"found early, and nothing ahead":      {list{at(3, 2, 9), at(4, 0, 9)}, list{at(3, 2, 9)}, 2, 0, 0, true},
		"the first tick of all":               {list{at(0, 0, 0)}, list{at(0, 0, 10000)}, 0, 0, 0, true},
		"the last tick of all":                {list{at(15, 10000, 10000)}, list{at(15, 0, 10000)}, 10000, 0, 0, true},
		"a has no boxes":                      {nil, list{at(3, 5, 9)}, 0, 0, 0, false},
		"b has no boxes":                      {list{at(3, 5, 9)}, nil, 0, 0, 0, false},
		"neither has boxes":                   {nil, list{}, 0, 0, 0, false},
		"a has a box that is not ok":          {list{at(3, 5, 9), at(16, 0, 0)}, list{at(3, 5, 9)}, 0, 0, 0, false},
		"b has a box that is not ok":          {list{at(3, 5, 9)}, list{at(3, 5, 9), at(0, 1, 0)}, 0, 0, 0, false},
		"a has 41 boxes":                      {slices.Repeat(list{at(3, 5, 9)}, 41), list{at(3, 5, 9)}, 0, 0, 0, false},
		"b has 41 boxes":                      {list{at(3, 5, 9)}, slices.Repeat(list{at(3, 5, 9)}, 41), 0, 0, 0, false},
		"the last of 40 and the last of 40":   {append(slices.Repeat(list{at(0, 5, 9)}, 39), at(8, 1, 2)), append(slices.Repeat(list{at(14, 0, 9)}, 39), at(8, 2, 2)), 2, 39, 39, true},
		"all of 40 with all of 40":            {slices.Repeat(list{at(3, 5, 9)}, 40), slices.Repeat(list{at(3, 6, 9)}, 40), 6, 0, 0, true},
		"a tick of one box, a cell of others": {list{at(3, 0, 4), at(9, 5, 9)}, list{at(3, 5, 9), at(9, 0, 4)}, 0, 0, 0, false},
	} {
		want := impl.ProbeClash{Tick: c.tick, I: c.i, J: c.j}
		if c.near {
			want.A, want.B = "one", "two"
		}
		a, b := tubeOf("one", c.a...), tubeOf("two", c.b...)
		if got, near := impl.ProbeMeet(a, b); near != c.near || got != want {
			t.Errorf("%s: %v %v, not %v", name, got, near, want)
		}
		if got, near := impl.ProbeMeet(b, a); near != c.near || got.Tick != c.tick {
			t.Errorf("%s, the other way round: %v %v", name, got, near)
		}
	}
}

func TestProbeMeetLooksAtNoNames(t *testing.T) {
	tube := tubeOf("a", at(3, 7, 9), at(3, 5, 9), at(4, 5, 5))
	if got, near := impl.ProbeMeet(tube, tube); !near || got != (impl.ProbeClash{A: "a", B: "a", Tick: 5, I: 1, J: 1}) {
		t.Errorf("itself: %v %v", got, near)
	}
	for _, names := range [][2]string{{"z", "a"}, {"a", "z"}, {"a", "ab"}, {"-", "--------"}} {
		got, near := impl.ProbeMeet(tubeOf(names[0], at(3, 5, 9)), tubeOf(names[1], at(3, 5, 9)))
		if !near || got != (impl.ProbeClash{A: names[0], B: names[1], Tick: 5}) {
			t.Errorf("%q: %v %v", names, got, near)
		}
	}
	empty := impl.ProbeTube{Name: "a"}
	if got, near := impl.ProbeMeet(empty, empty); near || got != (impl.ProbeClash{}) {
		t.Errorf("without boxes, itself: %v %v", got, near)
	}
	good := tubeOf("a", midBox)
	for _, name := range []string{"", "abcdefghi", "A", "a\x80", "é"} {
		bad := tubeOf(name, midBox)
		for _, pair := range [][2]impl.ProbeTube{{good, bad}, {bad, good}, {bad, bad}} {
			if got, near := impl.ProbeMeet(pair[0], pair[1]); near || got != (impl.ProbeClash{}) {
				t.Errorf("%q: %v %v", name, got, near)
			}
		}
	}
}

// plainMeet looks at tick by tick, and at each at all pairs in order.
func plainMeet(a impl.ProbeTube, b impl.ProbeTube, lastTick int) (impl.ProbeClash, bool) {
	for tick := 0; plainTubeOk(a) && plainTubeOk(b) && tick <= lastTick; tick++ {
		for i, x := range a.Boxes {
			for j, y := range b.Boxes {
				if plainNear(x, y, tick) {
					return impl.ProbeClash{A: a.Name, B: b.Name, Tick: tick, I: i, J: j}, true
				}
			}
		}
	}
	return impl.ProbeClash{}, false
}

// someTubes hands out so many pairs of small tubes, always the same ones: up
// to four boxes each, on few cells, levels and ticks.
func someTubes(count int, each func(a impl.ProbeTube, b impl.ProbeTube)) {
	seed := uint32(1)
	next := func(below int) int {
		seed = seed*1664525 + 1013904223
		return int(seed>>16) % below
	}
	tube := func(name string) impl.ProbeTube {
		made := impl.ProbeTube{Name: name}
		for range next(5) {
			low, in := next(3), next(7)
			made.Boxes = append(made.Boxes, impl.ProbeBox{X: next(5), Y: next(4), Low: low, High: low + next(2), In: in, Out: in + next(4)})
		}
		return made
	}
	for range count {
		each(tube("a"), tube("b"))
	}
}

// Promise 9.
func TestProbeMeetIsTheFirstOfAll(t *testing.T) {
	met, apart := 0, 0
	someTubes(60000, func(a impl.ProbeTube, b impl.ProbeTube) {
		got, near := impl.ProbeMeet(a, b)
		want, found := plainMeet(a, b, 10)
		if near != found || got != want {
			t.Fatalf("%v and %v: %v %v, not %v", a, b, got, near, want)
		}
		back, too := impl.ProbeMeet(b, a)
		if too != near || back.Tick != got.Tick {
			t.Fatalf("%v and %v: %v, and back %v", a, b, got, back)
		}
		if !near {
			apart++
			return
		}
		met++
		if tick, same := impl.ProbeClose(a.Boxes[got.I], b.Boxes[got.J]); !same || tick != got.Tick {
			t.Errorf("%v and %v: %v, but those two at %d", a, b, got, tick)
		}
	})
	if met < 10000 || apart < 10000 {
		t.Errorf("%d met, %d did not", met, apart)
	}
}

func TestProbeMeetOfWildNumbers(t *testing.T) {
	for place := range 6 {
		for other := range 6 {
			for _, n := range wild {
				for _, m := range wild {
					a, b := tubeOf("a", at(14, 0, 9), midBox), tubeOf("b", midBox)
					*probeNumbers(&a.Boxes[1])[place] = n
					*probeNumbers(&b.Boxes[0])[other] = m
					first := impl.ProbeClash{}
					near := plainNear(a.Boxes[1], b.Boxes[0], max(a.Boxes[1].In, b.Boxes[0].In))
					if near {
						first = impl.ProbeClash{A: "a", B: "b", Tick: max(a.Boxes[1].In, b.Boxes[0].In), I: 1}
					}
					// Nobody on the levels of the first box but who is down there.
					if plainNear(a.Boxes[0], b.Boxes[0], b.Boxes[0].In) {
						continue
					}
					if got, ok := impl.ProbeMeet(a, b); ok != near || got != first {
						t.Errorf("%v and %v: %v %v", a, b, got, ok)
					}
				}
			}
		}
	}
}

// What is cut away cannot meet; what is left meets where it did, or later.
func TestProbeMeetOfCutTubes(t *testing.T) {
	someTubes(3000, func(a impl.ProbeTube, b impl.ProbeTube) {
		for from := -1; from <= 11; from++ {
			got, near := impl.ProbeMeet(impl.ProbeCut(a, from), b)
			want, found := 0, false
			for tick := max(from, 0); tick <= 10 && !found; tick++ {
				for _, x := range a.Boxes {
					found = found || slices.ContainsFunc(b.Boxes, func(y impl.ProbeBox) bool { return plainNear(x, y, tick) })
				}
				if found {
					want = tick
				}
			}
			if near != found || got.Tick != want {
				t.Fatalf("%v from %d and %v: %v %v, not %d", a, from, b, got, near, want)
			}
		}
	})
}
