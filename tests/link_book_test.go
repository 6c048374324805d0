package tests

import (
	"reflect"
	"slices"
	"testing"

	"loop.example/laplink/impl"
)

// plainLinkTube is the boxes of FlyTube from a tick on, under a name.
func plainLinkTube(name string, p impl.FlyPath, now int) impl.ProbeTube {
	if !plainName(name) {
		return impl.ProbeTube{}
	}
	tube := impl.ProbeTube{Name: name}
	for _, b := range impl.FlyTube(p) {
		if b.Out >= now {
			tube.Boxes = append(tube.Boxes, impl.ProbeBox{X: b.X, Y: b.Y, Low: b.Low, High: b.High, In: max(b.In, now), Out: b.Out})
		}
	}
	return tube
}

func TestLinkTube(t *testing.T) {
	// The boxes of threeSteps are at 10 to 24, 13 to 59 and 16 to 62.
	first := func(in int) impl.ProbeBox { return impl.ProbeBox{X: 4, Y: 4, Low: 1, High: 2, In: in, Out: 24} }
	second := func(in int) impl.ProbeBox { return impl.ProbeBox{X: 5, Y: 4, Low: 2, High: 3, In: in, Out: 59} }
	third := func(in int) impl.ProbeBox { return impl.ProbeBox{X: 5, Y: 5, Low: 3, High: 4, In: in, Out: 62} }
	whole := tubeOf("kite", first(10), second(13), third(16))
	nothing := impl.ProbeTube{}
	for name, c := range map[string]struct {
		name string
		path impl.FlyPath
		now  int
		tube impl.ProbeTube
	}{
		"from 0":                           {"kite", threeSteps(), 0, whole},
		"from below 0":                     {"kite", threeSteps(), -1, whole},
		"one ahead of the first tick":      {"kite", threeSteps(), 9, whole},
		"at the first tick":                {"kite", threeSteps(), 10, whole},
		"one behind it":                    {"kite", threeSteps(), 11, tubeOf("kite", first(11), second(13), third(16))},
		"within all three":                 {"kite", threeSteps(), 20, tubeOf("kite", first(20), second(20), third(20))},
		"at the last tick of the first":    {"kite", threeSteps(), 24, tubeOf("kite", first(24), second(24), third(24))},
		"one behind that":                  {"kite", threeSteps(), 25, tubeOf("kite", second(25), third(25))},
		"behind the second":                {"kite", threeSteps(), 60, tubeOf("kite", third(60))},
		"at the last tick":                 {"kite", threeSteps(), 62, tubeOf("kite", third(62))},
		"one behind the last tick":         {"kite", threeSteps(), 63, tubeOf("kite")},
		"long behind":                      {"kite", threeSteps(), 10001, tubeOf("kite")},
		"another name":                     {"abc-0129", threeSteps(), 62, tubeOf("abc-0129", third(62))},
		"no name":                          {"", threeSteps(), 0, nothing},
		"a name too long":                  {"abc-01290", threeSteps(), 0, nothing},
		"a name that is none":              {"Kite", threeSteps(), 0, nothing},
		"a name that is no text":           {"k\xff", threeSteps(), 0, nothing},
		"no flight":                        {"kite", noFlight(), 0, tubeOf("kite")},
		"no flight, no name":               {"", noFlight(), 0, nothing},
		"no path":                          {"kite", impl.FlyPath{}, 0, tubeOf("kite")},
		"not ok":                           {"kite", changed(func(p *impl.FlyPath) { p.By = 10001 }), 0, tubeOf("kite")},
		"41 steps":                         {"kite", zigzag(41), 0, tubeOf("kite")},
		"all ticks":                        {"kite", allTicks(), 0, tubeOf("kite", impl.ProbeBox{X: 7, Y: 8, Low: 2, High: 4, Out: 9999})},
		"all ticks, from the last but one": {"kite", allTicks(), 9999, tubeOf("kite", impl.ProbeBox{X: 7, Y: 8, Low: 2, High: 4, In: 9999, Out: 9999})},
		"all ticks, from the last":         {"kite", allTicks(), 10000, tubeOf("kite")},
	} {
		if got := impl.LinkTube(c.name, c.path, c.now); !sameTube(got, c.tube) {
			t.Errorf("%s: %v, not %v", name, got, c.tube)
		}
	}
	if got := impl.LinkTube("kite", zigzag(40), 0); len(got.Boxes) != 40 || !impl.ProbeTubeOk(got) {
		t.Errorf("forty steps: %v", got)
	}
}

func TestLinkTubeOfManyPaths(t *testing.T) {
	fewPaths(31, func(p impl.FlyPath) {
		for now := -1; now <= 12; now++ {
			got, want := impl.LinkTube("a", p, now), plainLinkTube("a", p, now)
			if !sameTube(got, want) || !impl.ProbeTubeOk(got) {
				t.Errorf("%v from %d: %v, not %v", p, now, got, want)
			}
		}
	})
}

func TestLinkTubeOfWildNumbers(t *testing.T) {
	for _, now := range wild {
		if got, want := impl.LinkTube("kite", threeSteps(), now), plainLinkTube("kite", threeSteps(), now); !sameTube(got, want) {
			t.Errorf("from %d: %v, not %v", now, got, want)
		}
		for place, at := range pathNumbers() {
			for _, n := range wild {
				p := threeSteps()
				*at(&p) = n
				got, want := impl.LinkTube("kite", p, now), plainLinkTube("kite", p, now)
				if !sameTube(got, want) || !anyFlight(p) && len(got.Boxes) > 0 {
					t.Errorf("%s is %d, from %d: %v, not %v", place, n, now, got, want)
				}
			}
		}
	}
}

func TestLinkTubeWritesAndKeepsNothing(t *testing.T) {
	room := append(threeSteps().Steps, impl.FlyStep{X: 9}, impl.FlyStep{X: 8})
	kept := slices.Clone(room)
	p := threeSteps()
	p.Steps = room[:3]
	for _, now := range []int{0, 30, 63} {
		got := impl.LinkTube("kite", p, now)
		for i := range got.Boxes[:cap(got.Boxes)] {
			got.Boxes[:cap(got.Boxes)][i] = impl.ProbeBox{X: -1}
		}
		if again := impl.LinkTube("kite", p, now); !sameTube(again, plainLinkTube("kite", threeSteps(), now)) {
			t.Errorf("from %d, behind a change: %v", now, again)
		}
		if !reflect.DeepEqual(room, kept) {
			t.Errorf("from %d: steps are %v", now, room)
		}
	}
}
