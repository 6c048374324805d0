package tests

import (
	"math"
	"slices"
	"testing"

	"loop.example/laplink/impl"
)

// stepCase is a world, an event, and what is other behind it; nil: nothing.
type stepCase struct {
	world  impl.LinkWorld
	event  impl.LinkEvent
	change func(w *impl.LinkWorld)
}

// wantStep holds LinkStep against a case. Promise 17: the world behind it is ok.
func wantStep(t *testing.T, name string, c stepCase) {
	t.Helper()
	if !impl.LinkWorldOk(c.world) {
		t.Fatalf("%s: the world is not ok", name)
	}
	want, got := worldWith(c.world, c.change), impl.LinkStep(c.world, c.event)
	if !sameWorld(got, want) {
		t.Errorf("%s:\n%+v, not\n%+v", name, got, want)
	}
	if !sameWorld(want, plainStep(c.world, c.event)) {
		t.Errorf("%s: the case is not what the chapter says", name)
	}
	if !impl.LinkWorldOk(got) {
		t.Errorf("%s: %+v is not ok", name, got)
	}
}

func wantSteps(t *testing.T, cases map[string]stepCase) {
	t.Helper()
	for name, c := range cases {
		wantStep(t, name, c)
	}
}

// landed is what an aircraft that lands says.
func landed(name string, number int) impl.LinkWord {
	return say(impl.LinkLanded, name, number)
}

// antIn is busy with ant having flown so much, at a tick.
func antIn(now int, flown ...int) impl.LinkWorld {
	return worldWith(busy(), func(w *impl.LinkWorld) {
		w.Now = now
		w.Crafts[0].Flown = flown
	})
}

// withRadio is a world with so many words ahead of its own.
func withRadio(w impl.LinkWorld, count int) impl.LinkWorld {
	w.Radio = append(reports(count), w.Radio...)
	return w
}

// withOut is a world with words that are to be said.
func withOut(w impl.LinkWorld, words ...impl.LinkWord) impl.LinkWorld {
	w.Ground.Out = words
	return w
}

func TestLinkStepOfOtherKinds(t *testing.T) {
	kinds := []int{0, 12, 13, -1, -2, -11, math.MinInt, math.MinInt + 1, math.MinInt + 3, math.MaxInt, 1 << 32, 1<<32 + 1, 257, 1 << 40}
	for _, kind := range kinds {
		for _, w := range []impl.LinkWorld{impl.LinkNew(), {}, busy(), busyDown(), withOut(busy(), reports(3)...), fullSky(8)} {
			for a := -1; a <= 2; a++ {
				for _, name := range []string{"", "ant", "zoo"} {
					e := impl.LinkEvent{Kind: kind, A: a, Name: name, Path: lane(12, 9, 10)}
					wantStep(t, "another kind", stepCase{w, e, nil})
				}
			}
		}
	}
}

func TestLinkStepOfPlaces(t *testing.T) {
	w := withRadio(busy(), 2)
	for _, a := range []int{math.MinInt, -3, -2, -1, 2, 3, 40, math.MaxInt, 1 << 32, math.MinInt + 1} {
		for _, kind := range []int{impl.LinkMoves, impl.LinkTells} {
			wantStep(t, "nobody there", stepCase{w, asked(kind, a), nil})
			wantStep(t, "nobody there, not up", stepCase{withRadio(busyDown(), 2), asked(kind, a), nil})
		}
		for _, kind := range []int{impl.LinkBrings, impl.LinkDoubles, impl.LinkLoses} {
			if a != 2 {
				wantStep(t, "no word there", stepCase{w, asked(kind, a), nil})
				wantStep(t, "no word there, not up", stepCase{withRadio(busyDown(), 2), asked(kind, a), nil})
			}
		}
	}
	for kind := impl.LinkMoves; kind <= impl.LinkTells; kind++ {
		wantStep(t, "nobody and nothing there", stepCase{impl.LinkNew(), asked(kind, 0), nil})
		wantStep(t, "nobody and nothing there, not up", stepCase{impl.LinkWorld{}, asked(kind, 0), nil})
	}
	wantSteps(t, map[string]stepCase{
		"the last aircraft tells": {w, asked(impl.LinkTells, 1), func(w *impl.LinkWorld) {
			w.Radio = append(w.Radio, say(impl.LinkReport, "bee", 3))
		}},
		"the last aircraft moves": {worldWith(antIn(9, 6, 8), func(w *impl.LinkWorld) { w.Radio = nil }), asked(impl.LinkMoves, 1), func(w *impl.LinkWorld) {
			w.Crafts[1].Flown = []int{9}
		}},
		"the last word is lost":    {w, asked(impl.LinkLoses, 2), func(w *impl.LinkWorld) { w.Radio = w.Radio[:2] }},
		"the first word is lost":   {w, asked(impl.LinkLoses, 0), func(w *impl.LinkWorld) { w.Radio = w.Radio[1:] }},
		"the middle word is lost":  {w, asked(impl.LinkLoses, 1), func(w *impl.LinkWorld) { w.Radio = slices.Delete(w.Radio, 1, 2) }},
		"the last word is doubled": {w, asked(impl.LinkDoubles, 2), func(w *impl.LinkWorld) { w.Radio = append(w.Radio, w.Radio[2]) }},
		"the first is doubled":     {w, asked(impl.LinkDoubles, 0), func(w *impl.LinkWorld) { w.Radio = append(w.Radio, w.Radio[0]) }},
		"one short of full, doubled": {withRadio(busy(), 38), asked(impl.LinkDoubles, 38), func(w *impl.LinkWorld) {
			w.Radio = append(w.Radio, w.Radio[38])
		}},
		"full, doubled":      {withRadio(busy(), 39), asked(impl.LinkDoubles, 39), nil},
		"full, the last one": {withRadio(busy(), 39), asked(impl.LinkLoses, 39), func(w *impl.LinkWorld) { w.Radio = w.Radio[:39] }},
		"not up, lost":       {busyDown(), asked(impl.LinkLoses, 0), func(w *impl.LinkWorld) { w.Radio = nil }},
		"not up, doubled":    {busyDown(), asked(impl.LinkDoubles, 0), func(w *impl.LinkWorld) { w.Radio = append(w.Radio, w.Radio[0]) }},
	})
}

func TestLinkStepTicks(t *testing.T) {
	tick := asked(impl.LinkTicks, 0)
	quiet := worldWith(busy(), func(w *impl.LinkWorld) { w.Crafts[0].Flown = []int{6} })
	other := bookOf(20, holds("ant", 2, lane(1, 5, 6)), holds("cow", 12, lane(10, 9, 12)))
	wantSteps(t, map[string]stepCase{
		"a new world":         {impl.LinkNew(), tick, func(w *impl.LinkWorld) { w.Now = 1 }},
		"nothing":             {impl.LinkWorld{}, tick, func(w *impl.LinkWorld) { w.Now = 1 }},
		"A says nothing":      {impl.LinkNew(), asked(impl.LinkTicks, -7), func(w *impl.LinkWorld) { w.Now = 1 }},
		"nobody must":         {quiet, tick, func(w *impl.LinkWorld) { w.Now = 7 }},
		"one must":            {busy(), tick, func(w *impl.LinkWorld) { w.Now, w.Crafts[0].Flown = 7, []int{5, 7} }},
		"one must, not up":    {busyDown(), tick, func(w *impl.LinkWorld) { w.Now, w.Crafts[0].Flown = 7, []int{5, 7} }},
		"one may, and stays":  {antIn(8, 6, 8), tick, func(w *impl.LinkWorld) { w.Now = 9 }},
		"one who waits, must": {worldWith(antIn(11), down, func(w *impl.LinkWorld) { w.Crafts = w.Crafts[1:] }), tick, func(w *impl.LinkWorld) { w.Now, w.Crafts[0].Flown = 12, []int{12} }},
		"one lands": {antIn(11, 6, 8, 10), tick, func(w *impl.LinkWorld) {
			w.Now, w.Radio = 12, append(w.Radio, landed("ant", 2))
			// bee must start at 12, and ant's path has no box from 12 on.
			w.Crafts = []impl.LinkCraft{flier("bee", 3, lane(6, 9, 12), 12)}
			w.Ground.Mind.Held = w.Ground.Mind.Held[1:]
			w.Ground.Disk = w.Ground.Mind
		}},
		"one lands, not up": {worldWith(antIn(11, 6, 8, 10), down), tick, func(w *impl.LinkWorld) {
			w.Now, w.Radio = 12, append(w.Radio, landed("ant", 2))
			w.Crafts = []impl.LinkCraft{flier("bee", 3, lane(6, 9, 12), 12)}
		}},
		"the book is written": {worldWith(quiet, func(w *impl.LinkWorld) { w.Ground.Mind = other }), tick, func(w *impl.LinkWorld) {
			w.Now, w.Ground.Disk = 7, w.Ground.Mind
		}},
		"nobody is written": {worldWith(quiet, func(w *impl.LinkWorld) { w.Ground.Mind = impl.LinkBook{Last: 30} }), tick, func(w *impl.LinkWorld) {
			w.Now, w.Ground.Disk = 7, impl.LinkBook{Last: 30}
		}},
		"not up, the disk stays": {worldWith(quiet, down, func(w *impl.LinkWorld) { w.Ground.Disk = other }), tick, func(w *impl.LinkWorld) { w.Now = 7 }},
		"FlyMaxTick but one":     {impl.LinkWorld{Now: 9999}, tick, func(w *impl.LinkWorld) { w.Now = 10000 }},
		"FlyMaxTick":             {impl.LinkWorld{Now: 10000}, tick, nil},
		"FlyMaxTick, up":         {worldWith(impl.LinkNew(), func(w *impl.LinkWorld) { w.Now = 10000 }), tick, nil},
		"FlyMaxTick, something to be written and said": {withOut(worldWith(impl.LinkNew(), func(w *impl.LinkWorld) {
			w.Now, w.Ground.Mind, w.Radio = 10000, other, reports(3)
		}), reports(2)...), tick, nil},
		"FlyMaxTick but one, something to be written and said": {withOut(worldWith(impl.LinkNew(), func(w *impl.LinkWorld) {
			w.Now, w.Ground.Mind, w.Radio = 9999, other, reports(3)
		}), reports(2)...), tick, func(w *impl.LinkWorld) {
			w.Now, w.Radio = 10000, append(reports(3), reports(2)...)
			w.Ground = impl.LinkGround{Up: true, Mind: impl.LinkBook{Last: 20}, Disk: impl.LinkBook{Last: 20}}
		}},
		"the last one lands at FlyMaxTick": {worldWith(impl.LinkNew(), func(w *impl.LinkWorld) {
			w.Now, w.Crafts = 9999, []impl.LinkCraft{flier("ant", 7, allTicks(), 0)}
		}), tick, func(w *impl.LinkWorld) {
			w.Now, w.Crafts, w.Radio = 10000, nil, []impl.LinkWord{landed("ant", 7)}
		}},
	})
}

// lastSteps is a world at 7 in which so many aircraft must leave their last
// step at 8, each under ten numbers more than the one ahead.
func lastSteps(count int) impl.LinkWorld {
	w := impl.LinkNew()
	w.Now = 7
	for i := range count {
		w.Crafts = append(w.Crafts, flier(string([]byte{byte('a' + i)}), 10*(i+1), endsBy(lane(2*i, 5, 6), 8), 5, 6, 7))
	}
	return w
}

func TestLinkStepTicksFromTheLastToTheFirst(t *testing.T) {
	tick := asked(impl.LinkTicks, 0)
	three := lastSteps(3)
	said := func(words ...impl.LinkWord) func(w *impl.LinkWorld) {
		return func(w *impl.LinkWorld) {
			w.Now, w.Crafts, w.Radio, w.Ground.Out = 8, nil, append(w.Radio, words...), nil
		}
	}
	a, b, c := landed("a", 10), landed("b", 20), landed("c", 30)
	wantSteps(t, map[string]stepCase{
		"two":                              {lastSteps(2), tick, said(b, a)},
		"three":                            {three, tick, said(c, b, a)},
		"three, not up":                    {worldWith(three, down), tick, said(c, b, a)},
		"behind other words":               {withRadio(three, 5), tick, said(c, b, a)},
		"three short of full":              {withRadio(three, 37), tick, said(c, b, a)},
		"two short of full":                {withRadio(three, 38), tick, said(c, b)},
		"one short of full":                {withRadio(three, 39), tick, said(c)},
		"full":                             {withRadio(three, 40), tick, said()},
		"ahead of what the ground says":    {withOut(three, reports(2)...), tick, said(append([]impl.LinkWord{c, b, a}, reports(2)...)...)},
		"they leave the ground no room":    {withOut(withRadio(three, 37), reports(2)...), tick, said(c, b, a)},
		"they leave the ground one place":  {withOut(withRadio(three, 36), reports(2)...), tick, said(c, b, a, reports(1)[0])},
		"what the ground says has no room": {withOut(worldWith(three, func(w *impl.LinkWorld) { w.Crafts = nil }, func(w *impl.LinkWorld) { w.Radio = reports(40) }), reports(2)...), tick, said()},
		"the middle one flies on": {worldWith(three, func(w *impl.LinkWorld) { w.Crafts[1].Path = lane(2, 5, 6) }), tick, func(w *impl.LinkWorld) {
			w.Now, w.Crafts, w.Radio = 8, w.Crafts[1:2], []impl.LinkWord{c, a}
		}},
		"the first and the last fly on": {worldWith(three, func(w *impl.LinkWorld) {
			w.Crafts[0].Path, w.Crafts[2].Path = lane(0, 5, 6), lane(4, 5, 6)
		}), tick, func(w *impl.LinkWorld) {
			w.Now, w.Crafts, w.Radio = 8, slices.Delete(w.Crafts, 1, 2), []impl.LinkWord{b}
		}},
		"eight": {lastSteps(8), tick, func(w *impl.LinkWorld) {
			for i := range 8 {
				w.Radio = append(w.Radio, landed(string([]byte{byte('h' - i)}), 80-10*i))
			}
			w.Now, w.Crafts = 8, nil
		}},
	})
}

func TestLinkStepMoves(t *testing.T) {
	move := asked(impl.LinkMoves, 0)
	flown := func(ticks ...int) func(w *impl.LinkWorld) {
		return func(w *impl.LinkWorld) { w.Crafts[0].Flown = ticks }
	}
	waits := func(now int) impl.LinkWorld {
		return worldWith(busy(), func(w *impl.LinkWorld) { w.Now, w.Crafts = now, w.Crafts[1:] })
	}
	lands := func(w *impl.LinkWorld) {
		w.Crafts = w.Crafts[1:]
		w.Radio = append(w.Radio, landed("ant", 2))
	}
	lost := func(w *impl.LinkWorld) { w.Crafts = w.Crafts[1:] }
	wantSteps(t, map[string]stepCase{
		"from the first step":            {busy(), move, flown(5, 6)},
		"not up":                         {busyDown(), move, flown(5, 6)},
		"at the tick at which it came":   {antIn(6, 6), move, nil},
		"one tick later":                 {antIn(7, 6), move, flown(6, 7)},
		"one that waits, ahead of From":  {waits(8), move, nil},
		"one that waits, at From":        {waits(9), move, flown(9)},
		"one that waits, behind From":    {waits(11), move, flown(11)},
		"not up, one that may not":       {worldWith(waits(8), down), move, nil},
		"into its last step":             {antIn(8, 6, 7), move, flown(6, 7, 8)},
		"from its last step, too quick":  {antIn(8, 6, 7, 8), move, nil},
		"from its last step":             {antIn(9, 6, 7, 8), move, lands},
		"from its last step, not up":     {worldWith(antIn(9, 6, 7, 8), down), move, lands},
		"it lands, the radio one short":  {withRadio(antIn(9, 6, 7, 8), 38), move, lands},
		"it lands, the radio full":       {withRadio(antIn(9, 6, 7, 8), 39), move, lost},
		"it lands under what it took":    {worldWith(antIn(9, 6, 7, 8), func(w *impl.LinkWorld) { w.Crafts[0].Number = 4 }), move, func(w *impl.LinkWorld) { lost(w); w.Radio = append(w.Radio, landed("ant", 4)) }},
		"the second one alone":           {antIn(9, 6, 8), asked(impl.LinkMoves, 1), func(w *impl.LinkWorld) { w.Crafts[1].Flown = []int{9} }},
		"nothing is written":             {worldWith(busy(), func(w *impl.LinkWorld) { w.Ground.Disk = impl.LinkBook{} }), move, flown(5, 6)},
		"nothing is said for the ground": {withOut(busy(), reports(2)...), move, flown(5, 6)},
		"the last of eight, not yet":     {lastSteps(8), asked(impl.LinkMoves, 7), nil},
		"one of three lands, the middle one": {midLands(), asked(impl.LinkMoves, 1), func(w *impl.LinkWorld) {
			w.Crafts = slices.Delete(w.Crafts, 1, 2)
			w.Radio = []impl.LinkWord{landed("b", 2)}
		}},
	})
}

// midLands is a world at 8 in which the middle one of three may leave its last
// step, and the others may not.
func midLands() impl.LinkWorld {
	w := impl.LinkNew()
	w.Now = 8
	for i, flown := range [][]int{{6, 7, 8}, {5, 6, 7}, {6, 8}} {
		w.Crafts = append(w.Crafts, flier(string([]byte{byte('a' + i)}), i+1, lane(2*i, 5, 6), flown...))
	}
	return w
}

func TestLinkStepTells(t *testing.T) {
	tell := asked(impl.LinkTells, 0)
	report := func(name string, number int) func(w *impl.LinkWorld) {
		return func(w *impl.LinkWorld) { w.Radio = append(w.Radio, say(impl.LinkReport, name, number)) }
	}
	wantSteps(t, map[string]stepCase{
		"the first":                     {busy(), tell, report("ant", 2)},
		"the second, which waits":       {busy(), asked(impl.LinkTells, 1), report("bee", 3)},
		"not up":                        {busyDown(), tell, report("ant", 2)},
		"under what it took":            {worldWith(busy(), func(w *impl.LinkWorld) { w.Crafts[0].Number = 4 }), tell, report("ant", 4)},
		"not under what it refused":     {worldWith(busy(), func(w *impl.LinkWorld) { w.Crafts[0].No = 4 }), tell, report("ant", 2)},
		"the radio one short of full":   {withRadio(busy(), 38), tell, report("ant", 2)},
		"the radio full":                {withRadio(busy(), 39), tell, nil},
		"what is to be said stays":      {withOut(busy(), reports(2)...), tell, report("ant", 2)},
		"the name of the event is none": {busy(), impl.LinkEvent{Kind: impl.LinkTells, Name: "bee", Path: lane(1, 2, 3)}, report("ant", 2)},
		"the last of eight":             {fullSky(8), asked(impl.LinkTells, 7), report("h", 8)},
	})
}
