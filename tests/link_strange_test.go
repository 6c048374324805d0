package tests

import (
	"math"
	"reflect"
	"runtime"
	"slices"
	"testing"
	"time"

	"loop.example/laplink/impl"
)

// everyEvent are events of each kind, and of some that there are not, of places
// and names that there are in busy, and of some that there are not.
func everyEvent() []impl.LinkEvent {
	var all []impl.LinkEvent
	for kind := -1; kind <= 13; kind++ {
		for _, place := range []int{-1, 0, 1, 5} {
			all = append(all, impl.LinkEvent{Kind: kind, A: place, Name: "bee", Path: lane(12, 9, 12)})
		}
		all = append(all, byHand(kind, "ant", lane(12, 9, 12)), byHand(kind, "cow", lane(12, 9, 12)))
	}
	return all
}

// wantAll holds each function of chapters 25 and 26 against a second telling.
func wantAll(t *testing.T, name string, w impl.LinkWorld, events []impl.LinkEvent) {
	t.Helper()
	ok := plainWorldOk(w)
	if impl.LinkWorldOk(w) != ok {
		t.Errorf("%s: %+v is ok: %v", name, w, !ok)
	}
	if apart := ok && plainApart(w.Crafts, w.Now); impl.LinkApart(w) != apart {
		t.Errorf("%s: %+v is apart: %v", name, w, !apart)
	}
	if kept := plainKept(w); impl.LinkKept(w) != kept {
		t.Errorf("%s: %+v is kept: %v", name, w, !kept)
	}
	for _, early := range []bool{true, false} {
		tick, down := impl.LinkAlone(w, early)
		if want, wantDown := plainAlone(w, early); tick != want || down != wantDown {
			t.Errorf("%s: %+v, early is %v: %d %v, not %d %v", name, w, early, tick, down, want, wantDown)
		}
	}
	if got, want := impl.LinkCalm(w, 2), plainCalm(w, 2); !sameWorld(got, want) || ok && !impl.LinkWorldOk(got) {
		t.Errorf("%s: %+v, two rounds: %+v, not %+v", name, w, got, want)
	}
	for _, e := range events {
		got, want := impl.LinkStep(w, e), plainStep(w, e)
		if !sameWorld(got, want) || ok && !impl.LinkWorldOk(got) {
			t.Errorf("%s: %+v, %+v: %+v, not %+v", name, w, e, got, want)
		}
	}
}

func TestLinkOfWorldsThatAreNotOk(t *testing.T) {
	bad := func(change func(w *impl.LinkWorld)) impl.LinkWorld { return worldWith(busy(), change) }
	for name, w := range map[string]impl.LinkWorld{
		"now below 0":              skyOf(-1),
		"now past FlyMaxTick":      skyOf(10001),
		"Mind":                     bad(func(w *impl.LinkWorld) { w.Ground.Mind.Last = 1 }),
		"Disk":                     bad(func(w *impl.LinkWorld) { w.Ground.Disk.Last = 1 }),
		"Out too long":             bad(func(w *impl.LinkWorld) { w.Ground.Out = reports(41) }),
		"Radio too long":           bad(func(w *impl.LinkWorld) { w.Radio = reports(41) }),
		"Out, a word":              bad(func(w *impl.LinkWorld) { w.Ground.Out = []impl.LinkWord{{}} }),
		"Radio, a word":            bad(func(w *impl.LinkWorld) { w.Radio = []impl.LinkWord{{}} }),
		"not up, somebody in Mind": bad(func(w *impl.LinkWorld) { w.Ground.Up = false }),
		"not up, words in Out":     bad(func(w *impl.LinkWorld) { down(w); w.Ground.Out = reports(1) }),
		"too many aircraft":        fullSky(9),
		"aircraft out of order":    bad(func(w *impl.LinkWorld) { slices.Reverse(w.Crafts) }),
		"an aircraft":              bad(func(w *impl.LinkWorld) { w.Now = 7 }),
	} {
		wantAll(t, name, w, everyEvent())
		for _, e := range everyEvent() {
			if got := impl.LinkStep(w, e); !sameWorld(got, impl.LinkWorld{}) {
				t.Errorf("%s, %+v: %+v", name, e, got)
			}
		}
		for _, rounds := range []int{-1, 0, 1, 1000, 1001} {
			if got := impl.LinkCalm(w, rounds); !sameWorld(got, impl.LinkWorld{}) {
				t.Errorf("%s, %d rounds: %+v", name, rounds, got)
			}
		}
		if impl.LinkApart(w) || impl.LinkKept(w) {
			t.Errorf("%s: apart: %v, kept: %v", name, impl.LinkApart(w), impl.LinkKept(w))
		}
	}
}

// strange is an ok world with a change that no events lead to, which may leave
// it ok or not.
func strange(w impl.LinkWorld, roll func(int) int) impl.LinkWorld {
	w = ownCopy(w)
	name := string([]byte{byte('a' + roll(9))})
	p := somePath(roll, w.Now)
	word := sayPath(1+roll(7), name, roll(12), impl.FlyPath{})
	if word.Kind <= 2 {
		word.Path = p
	}
	for _, c := range w.Crafts {
		if c.Name == name && roll(2) == 0 {
			word.Number = c.Number
		}
	}
	switch roll(10) {
	case 0:
		w.Radio = append(w.Radio, slices.Repeat([]impl.LinkWord{word}, 1+roll(40))...)
	case 1:
		w.Ground.Out = append(w.Ground.Out, slices.Repeat([]impl.LinkWord{word}, 1+roll(40))...)
	case 2:
		another(&w, flier(name, 1+roll(9), p))
	case 3:
		w.Ground.Mind = w.Ground.Disk
	case 4:
		w.Ground.Disk = manyHold(roll(9))
	case 5:
		w.Ground.Mind = manyHold(roll(9))
	case 6:
		w.Now += roll(4)
	case 7:
		down(&w)
	case 8:
		numbers := numbersIn(&w)
		*numbers[roll(len(numbers))] += roll(3) - 1
	case 9:
		if len(w.Crafts) > 0 {
			c := ownCopy(w.Crafts[roll(len(w.Crafts))])
			c.Name = name
			another(&w, c)
		}
	}
	return w
}

// another lets one more fly, who goes on at once, if it may.
func another(w *impl.LinkWorld, c impl.LinkCraft) {
	c, _ = impl.LinkMove(c, w.Now)
	if plainCraftAt(*w, c.Name) < 0 {
		w.Crafts = append(w.Crafts, c)
	}
	slices.SortFunc(w.Crafts, func(a impl.LinkCraft, b impl.LinkCraft) int { return count(a.Name > b.Name) - count(a.Name < b.Name) })
}

// Promise 17, of worlds to which no events lead: what is ok stays so.
func TestLinkOfStrangeWorlds(t *testing.T) {
	oks, near, lost := 0, 0, 0
	for seed := range uint32(40) {
		roll := rolls(seed*331 + 11)
		w := impl.LinkNew()
		for range 60 {
			w = impl.LinkStep(w, someEvent(roll, w))
			odd := strange(w, roll)
			for range roll(3) {
				odd = strange(odd, roll)
			}
			var events []impl.LinkEvent
			for range 6 {
				events = append(events, someEvent(roll, odd))
			}
			wantAll(t, "strange", odd, append(events, ticks, bring))
			oks += count(impl.LinkWorldOk(odd))
			near += count(impl.LinkWorldOk(odd) && !impl.LinkApart(odd))
			lost += count(impl.LinkWorldOk(odd) && !impl.LinkKept(odd))
		}
	}
	if min(oks, 2400-oks) < 300 || near < 20 || lost < 200 {
		t.Errorf("ok: %d, near: %d, not kept: %d", oks, near, lost)
	}
}

func TestLinkOfWildNumbers(t *testing.T) {
	full := withOut(busy(), sayPath(1, "cow", 10, lane(9, 9, 12)), say(3, "ant", 4))
	full.Radio = append(full.Radio, say(6, "bee", 3))
	oks, nots := 0, 0
	for place := range numbersIn(&full) {
		for _, n := range wild {
			w := ownCopy(full)
			*numbersIn(&w)[place] = n
			wantAll(t, "wild", w, []impl.LinkEvent{ticks, bring, asked(impl.LinkBrings, 1), asked(impl.LinkMoves, 0), byHand(impl.LinkFiles, "dog", lane(14, 9, 12)), falls})
			oks, nots = oks+count(impl.LinkWorldOk(w)), nots+count(!impl.LinkWorldOk(w))
		}
	}
	if min(oks, nots) < 300 {
		t.Errorf("ok: %d, not: %d", oks, nots)
	}
	for kind := -1; kind <= 13; kind++ {
		e := impl.LinkEvent{Kind: kind, A: 1, Name: "bee", Path: lane(12, 9, 12)}
		for place := range numbersIn(&e) {
			for _, n := range wild {
				event := ownCopy(e)
				*numbersIn(&event)[place] = n
				for _, w := range []impl.LinkWorld{busy(), busyDown(), fullSky(8)} {
					if got, want := impl.LinkStep(w, event), plainStep(w, event); !sameWorld(got, want) || !impl.LinkWorldOk(got) {
						t.Errorf("%+v, %+v: %+v, not %+v", w, event, got, want)
					}
				}
			}
		}
	}
	for _, rounds := range wild {
		if got, want := impl.LinkCalm(busy(), rounds), plainCalm(busy(), rounds); !sameWorld(got, want) {
			t.Errorf("%d rounds: %+v, not %+v", rounds, got, want)
		}
	}
}

// wantOwnWorld calls with a world and an event that have spare room; the answer
// may share none of it, no two of its lists may share any, and what was handed
// in must be as it was.
func wantOwnWorld(t *testing.T, name string, w impl.LinkWorld, e impl.LinkEvent, call func(w impl.LinkWorld, e impl.LinkEvent) impl.LinkWorld) {
	t.Helper()
	world, event := roomy(w), roomy(e)
	keptWorld, keptEvent := wholeOf(world), wholeOf(event)
	first, second := call(world, event), call(world, event)
	of := [][]stretch{stretchesOf(world), stretchesOf(event), stretchesOf(first), stretchesOf(second)}
	if !shareNone(slices.Concat(of...)) {
		t.Errorf("%s: memory is shared", name)
	}
	if !reflect.DeepEqual(wholeOf(world), keptWorld) || !reflect.DeepEqual(wholeOf(event), keptEvent) {
		t.Errorf("%s: written: %+v %+v, not %+v %+v", name, wholeOf(world), wholeOf(event), keptWorld, keptEvent)
	}
	if !sameWorld(first, second) {
		t.Errorf("%s: %+v, and once more: %+v", name, first, second)
	}
	for _, n := range numbersIn(&first) {
		*n = -77
	}
	if again := call(world, event); !sameWorld(again, second) {
		t.Errorf("%s: behind a change of an answer: %+v, not %+v", name, again, second)
	}
}

// ownWorlds are worlds in which each event writes, reads or copies something.
func ownWorlds() map[string]impl.LinkWorld {
	filed := withOut(busy(), sayPath(1, "cow", 10, lane(9, 9, 12)), sayPath(2, "bee", 11, lane(6, 9, 11)), say(3, "ant", 4))
	return map[string]impl.LinkWorld{
		"new": impl.LinkNew(), "busy": busy(), "not up": busyDown(), "something to be said": filed, "eight": fullSky(8),
		"the radio full": withRadio(busy(), 39), "all land": lastSteps(4), "one may land": midLands(),
		"the answer is under way": onRadio(busy(), say(3, "ant", 4), say(6, "bee", 3)),
		"not ok":                  worldWith(filed, func(w *impl.LinkWorld) { w.Now = 7 }),
		"the last tick":           worldWith(filed, func(w *impl.LinkWorld) { w.Now, w.Crafts = 10000, nil }),
	}
}

func TestLinkWorldsWriteAndKeepNothing(t *testing.T) {
	for name, w := range ownWorlds() {
		for _, e := range everyEvent() {
			wantOwnWorld(t, name, w, e, impl.LinkStep)
		}
		for _, rounds := range []int{-1, 0, 1, 2, 3, 9} {
			wantOwnWorld(t, name+", calm", w, impl.LinkEvent{}, func(w impl.LinkWorld, e impl.LinkEvent) impl.LinkWorld {
				return impl.LinkCalm(w, rounds)
			})
		}
		wantOwnWorld(t, name+", asked", w, impl.LinkEvent{}, func(w impl.LinkWorld, e impl.LinkEvent) impl.LinkWorld {
			var told impl.LinkWorld
			early, _ := impl.LinkAlone(w, true)
			late, _ := impl.LinkAlone(w, false)
			told.Now = early + 100000*late
			told.Ground.Up = impl.LinkWorldOk(w) != impl.LinkApart(w) != impl.LinkKept(w)
			return told
		})
	}
	roll := rolls(3)
	w := impl.LinkNew()
	for range 400 {
		e := someEvent(roll, w)
		wantOwnWorld(t, "drawn", w, e, impl.LinkStep)
		w = impl.LinkStep(w, e)
	}
}

// All goroutines have ended when a call answers, and what it answers does not
// hang on how many of them run at once.
func TestLinkLeavesNobodyBehind(t *testing.T) {
	ahead := runtime.NumGoroutine()
	defer runtime.GOMAXPROCS(runtime.GOMAXPROCS(0))
	worlds := ownWorlds()
	for _, procs := range []int{1, 2, 8} {
		runtime.GOMAXPROCS(procs)
		for name, w := range worlds {
			for _, e := range everyEvent() {
				if got, want := impl.LinkStep(w, e), plainStep(w, e); !sameWorld(got, want) {
					t.Errorf("%s, %+v: %+v, not %+v", name, e, got, want)
				}
			}
			impl.LinkCalm(w, 9)
			impl.LinkAlone(w, false)
		}
	}
	// One that has ended may still be counted for a moment.
	for wait := 0; runtime.NumGoroutine() > ahead && wait < 200; wait++ {
		time.Sleep(5 * time.Millisecond)
	}
	if behind := runtime.NumGoroutine(); behind > ahead {
		t.Errorf("%d goroutines ahead, %d behind", ahead, behind)
	}
}

// One at a time, a goroutine that is waited for is as a rule not counted any
// more when a call answers; one that is not is counted still.
func TestLinkWaitsForAll(t *testing.T) {
	defer runtime.GOMAXPROCS(runtime.GOMAXPROCS(1))
	calls := map[string]func(){
		"step":  func() { impl.LinkStep(fullSky(8), ticks) },
		"lands": func() { impl.LinkStep(lastSteps(8), ticks) },
		"calm":  func() { impl.LinkCalm(fullSky(8), 20) },
	}
	for name, call := range calls {
		left := 0
		for range 50 {
			ahead := runtime.NumGoroutine()
			call()
			left += count(runtime.NumGoroutine() > ahead)
			time.Sleep(time.Millisecond)
		}
		if left > 25 {
			t.Errorf("%s: behind %d of 50 calls somebody was left", name, left)
		}
	}
}

// Two who call at the same time do not meet.
func TestLinkCalledByMany(t *testing.T) {
	answers := make(chan impl.LinkWorld)
	for range 8 {
		go func() {
			answers <- impl.LinkCalm(impl.LinkStep(busy(), byHand(impl.LinkFiles, "cow", lane(12, 9, 12))), 5)
		}()
	}
	want := plainCalm(plainStep(busy(), byHand(impl.LinkFiles, "cow", lane(12, 9, 12))), 5)
	for range 8 {
		if got := <-answers; !sameWorld(got, want) {
			t.Errorf("%+v, not %+v", got, want)
		}
	}
}

// A row that ends with the last tick of all.
func TestLinkToTheLastTick(t *testing.T) {
	w := impl.LinkNew()
	late := spot(5, 5, spanOf(0, 9000), spanOf(0, 10000))
	w = impl.LinkStep(w, byHand(impl.LinkFiles, "a", late))
	w = impl.LinkStep(w, byHand(impl.LinkFiles, "b", spot(9, 9, spanOf(0, 9000), spanOf(9999, 9999))))
	for range 10 {
		w = impl.LinkCalm(w, 1000)
		wantPromises(t, "late", w, rolls(1))
	}
	if w.Now != 10000 || len(w.Crafts) != 0 || len(w.Ground.Disk.Held) != 0 || w.Ground.Disk.Last != 2 {
		t.Errorf("%+v", w)
	}
	if again := impl.LinkCalm(w, 3); again.Now != 10000 || !impl.LinkWorldOk(again) {
		t.Errorf("%+v", again)
	}
	if tick, ok := impl.LinkAlone(w, false); tick != 10000 || !ok {
		t.Errorf("%d %v", tick, ok)
	}
	if next := impl.LinkStep(w, asked(math.MaxInt, 0)); !sameWorld(next, w) {
		t.Errorf("%+v", next)
	}
}
