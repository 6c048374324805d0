package tests

import (
	"math"
	"slices"
	"strings"
	"testing"

	"loop.example/laplink/impl"
)

func TestLinkWorldNumbers(t *testing.T) {
	kinds := []int{
		impl.LinkTicks, impl.LinkMoves, impl.LinkBrings, impl.LinkDoubles, impl.LinkLoses, impl.LinkFiles,
		impl.LinkSends, impl.LinkRepeats, impl.LinkTells, impl.LinkFalls, impl.LinkRises,
	}
	if !slices.Equal(kinds, ticksUp(1, 11)) || impl.LinkMaxRadio != 40 || impl.LinkMaxCalm != 1000 {
		t.Errorf("kinds %v, words up to %d, rounds up to %d", kinds, impl.LinkMaxRadio, impl.LinkMaxCalm)
	}
}

func TestLinkNew(t *testing.T) {
	w := impl.LinkNew()
	if !sameWorld(w, impl.LinkWorld{Ground: impl.LinkGround{Up: true}}) {
		t.Errorf("%v", w)
	}
	if !impl.LinkWorldOk(w) {
		t.Errorf("%v is not ok", w)
	}
	w.Radio = append(w.Radio, say(impl.LinkTook, "ant", 1))
	w.Ground.Up = false
	if again := impl.LinkNew(); !again.Ground.Up || len(again.Radio) > 0 {
		t.Errorf("behind a change: %v", again)
	}
}

// worldCase is a world, by what is changed of busy, and whether it is ok.
type worldCase struct {
	change func(w *impl.LinkWorld)
	ok     bool
}

func wantWorldOk(t *testing.T, cases map[string]worldCase) {
	t.Helper()
	for name, c := range cases {
		w := worldWith(busy(), c.change)
		if got := impl.LinkWorldOk(w); got != c.ok || plainWorldOk(w) != c.ok {
			t.Errorf("%s: %v", name, got)
		}
	}
}

// nobodyAt is a world at a tick in which nobody holds or flies anything.
func nobodyAt(now int) func(w *impl.LinkWorld) {
	return func(w *impl.LinkWorld) {
		*w = impl.LinkNew()
		w.Now = now
	}
}

func TestLinkWorldOkOfNowAndBooks(t *testing.T) {
	// Those of rows 1 and 2 come too near up to 11, the last tick of the first.
	near := bookOf(9, holds("ant", 1, lane(1, 5, 6)), holds("bee", 2, lane(2, 10, 11)))
	both := func(now int) func(w *impl.LinkWorld) {
		return func(w *impl.LinkWorld) {
			nobodyAt(now)(w)
			w.Ground.Mind, w.Ground.Disk = near, near
		}
	}
	wantWorldOk(t, map[string]worldCase{
		"as it is":                     {nil, true},
		"now 0":                        {nobodyAt(0), true},
		"now below 0":                  {nobodyAt(-1), false},
		"now FlyMaxTick":               {nobodyAt(10000), true},
		"now past FlyMaxTick":          {nobodyAt(10001), false},
		"now at the least":             {nobodyAt(math.MinInt), false},
		"now at the greatest":          {nobodyAt(math.MaxInt), false},
		"now below 0, not up":          {func(w *impl.LinkWorld) { *w = impl.LinkWorld{Now: -1} }, false},
		"now past FlyMaxTick, not up":  {func(w *impl.LinkWorld) { *w = impl.LinkWorld{Now: 10001} }, false},
		"nothing":                      {func(w *impl.LinkWorld) { *w = impl.LinkWorld{} }, true},
		"Mind, Last below a number":    {func(w *impl.LinkWorld) { w.Ground.Mind.Last = 3 }, false},
		"Disk, Last below a number":    {func(w *impl.LinkWorld) { w.Ground.Disk.Last = 3 }, false},
		"Mind, Last past its limit":    {func(w *impl.LinkWorld) { w.Ground.Mind.Last = 1000001 }, false},
		"Disk, Last past its limit":    {func(w *impl.LinkWorld) { w.Ground.Disk.Last = 1000001 }, false},
		"Mind, Last below 0":           {func(w *impl.LinkWorld) { w.Ground.Mind = bookOf(-1) }, false},
		"Disk, Last below 0":           {func(w *impl.LinkWorld) { w.Ground.Disk = bookOf(-1) }, false},
		"Mind out of order":            {func(w *impl.LinkWorld) { slices.Reverse(w.Ground.Mind.Held) }, false},
		"Disk out of order":            {func(w *impl.LinkWorld) { slices.Reverse(w.Ground.Disk.Held) }, false},
		"Mind of eight":                {func(w *impl.LinkWorld) { w.Ground.Mind = manyHold(8) }, true},
		"Mind of nine":                 {func(w *impl.LinkWorld) { w.Ground.Mind = manyHold(9) }, false},
		"Disk of eight":                {func(w *impl.LinkWorld) { w.Ground.Disk = manyHold(8) }, true},
		"Disk of nine":                 {func(w *impl.LinkWorld) { w.Ground.Disk = manyHold(9) }, false},
		"Mind, two too near":           {func(w *impl.LinkWorld) { w.Ground.Mind = near }, false},
		"Disk, two too near":           {func(w *impl.LinkWorld) { w.Ground.Disk = near }, false},
		"two too near at their last":   {both(11), false},
		"two too near, but not now on": {both(12), true},
		"Mind nobody":                  {func(w *impl.LinkWorld) { w.Ground.Mind = impl.LinkBook{} }, true},
		"Disk nobody":                  {func(w *impl.LinkWorld) { w.Ground.Disk = impl.LinkBook{} }, true},
		"Mind others than Disk":        {func(w *impl.LinkWorld) { w.Ground.Mind = bookOf(3, holds("zoo", 2, lane(1, 5, 6))) }, true},
		"Disk, somebody who is past":   {func(w *impl.LinkWorld) { w.Ground.Disk = bookOf(3, holds("zoo", 2, lane(1, 0, 0))) }, true},
	})
}

func TestLinkWorldOkOfWords(t *testing.T) {
	out := func(words ...impl.LinkWord) func(w *impl.LinkWorld) {
		return func(w *impl.LinkWorld) { w.Ground.Out = words }
	}
	radio := func(words ...impl.LinkWord) func(w *impl.LinkWorld) {
		return func(w *impl.LinkWorld) { w.Radio = words }
	}
	p := lane(1, 5, 6)
	cases := map[string]worldCase{
		"Out of 40":                    {out(reports(40)...), true},
		"Out of 41":                    {out(reports(41)...), false},
		"Radio of 40":                  {radio(reports(40)...), true},
		"Radio of 41":                  {radio(reports(41)...), false},
		"both of 40":                   {func(w *impl.LinkWorld) { w.Ground.Out, w.Radio = reports(40), reports(40) }, true},
		"Out of 41, Radio empty":       {func(w *impl.LinkWorld) { w.Ground.Out, w.Radio = reports(41), nil }, false},
		"both empty":                   {func(w *impl.LinkWorld) { w.Ground.Out, w.Radio = nil, []impl.LinkWord{} }, true},
		"Out, the same word twice":     {out(reports(1)[0], reports(1)[0]), true},
		"Out, the last of 40 is not":   {out(append(reports(39), impl.LinkWord{})...), false},
		"Radio, the last of 40 is not": {radio(append(reports(39), impl.LinkWord{})...), false},
	}
	for kind := 1; kind <= 6; kind++ {
		for of, path := range map[string]impl.FlyPath{"nothing": {}, "a path": p, "no flight": noFlight()} {
			word := sayPath(kind, "ant", 7, path)
			ok := of == "a path" && kind <= 2 || of == "nothing" && kind >= 3
			name := "kind " + string([]byte{byte('0' + kind)}) + ", " + of
			cases["Out, "+name] = worldCase{out(reports(1)[0], word), ok}
			cases["Radio, "+name] = worldCase{radio(word, reports(1)[0]), ok}
		}
	}
	for name, word := range map[string]impl.LinkWord{
		"kind 0": say(0, "ant", 7), "kind 7": say(7, "ant", 7), "no name": say(3, "", 7), "a name too long": say(3, "abc-01290", 7),
		"number 0": say(3, "ant", 0), "a number past its limit": say(3, "ant", 1000001),
	} {
		cases["Out, "+name] = worldCase{out(word), false}
		cases["Radio, "+name] = worldCase{radio(word), false}
	}
	wantWorldOk(t, cases)
}

func TestLinkWorldOkOfAGroundThatIsNotUp(t *testing.T) {
	with := func(change func(g *impl.LinkGround)) func(w *impl.LinkWorld) {
		return func(w *impl.LinkWorld) {
			down(w)
			change(&w.Ground)
		}
	}
	wantWorldOk(t, map[string]worldCase{
		"as it is":                    {down, true},
		"somebody in Mind":            {with(func(g *impl.LinkGround) { g.Mind = g.Disk }), false},
		"one alone in Mind":           {with(func(g *impl.LinkGround) { g.Mind = bookOf(1, holds("ant", 1, lane(1, 5, 6))) }), false},
		"a word in Out":               {with(func(g *impl.LinkGround) { g.Out = reports(1) }), false},
		"both":                        {with(func(g *impl.LinkGround) { g.Mind, g.Out = g.Disk, reports(1) }), false},
		"empty lists":                 {with(func(g *impl.LinkGround) { g.Mind.Held, g.Out = []impl.LinkHeld{}, []impl.LinkWord{} }), true},
		"nobody, behind some numbers": {with(func(g *impl.LinkGround) { g.Mind.Last = 9 }), true},
		"nobody, Last below 0":        {with(func(g *impl.LinkGround) { g.Mind.Last = -1 }), false},
		"Disk not ok":                 {with(func(g *impl.LinkGround) { g.Disk.Last = 1 }), false},
		"nobody on the Disk":          {with(func(g *impl.LinkGround) { g.Disk = impl.LinkBook{} }), true},
		"up, somebody in Mind":        {with(func(g *impl.LinkGround) { g.Up, g.Mind = true, g.Disk }), true},
		"up, a word in Out":           {with(func(g *impl.LinkGround) { g.Up, g.Out = true, reports(1) }), true},
		"many words on the radio":     {func(w *impl.LinkWorld) { down(w); w.Radio = reports(40) }, true},
	})
}

func TestLinkWorldOkOfCrafts(t *testing.T) {
	crafts := func(list ...impl.LinkCraft) func(w *impl.LinkWorld) {
		return func(w *impl.LinkWorld) { w.Crafts = list }
	}
	p := lane(1, 5, 8)
	named := func(names string) func(w *impl.LinkWorld) {
		return func(w *impl.LinkWorld) {
			w.Crafts = nil
			for i, name := range strings.Split(names, " ") {
				w.Crafts = append(w.Crafts, flier(name, i+1, p))
			}
		}
	}
	wantWorldOk(t, map[string]worldCase{
		"nobody":                            {crafts(), true},
		"eight":                             {func(w *impl.LinkWorld) { *w = fullSky(8) }, true},
		"nine":                              {func(w *impl.LinkWorld) { *w = fullSky(9) }, false},
		"one who is not in the books":       {crafts(flier("zoo", 77, p, 5, 6)), true},
		"two in one cell":                   {crafts(flier("ant", 1, p, 6), flier("bee", 2, p, 6)), true},
		"two under one number":              {crafts(flier("ant", 1, p, 6), flier("bee", 1, lane(5, 5, 6), 5)), true},
		"ascending":                         {named("a aa ab b"), true},
		"a digit ahead of a letter":         {named("-a 0a a"), true},
		"out of order":                      {named("b a"), false},
		"out of order at the end":           {named("a c b"), false},
		"out of order at the front":         {named("b a c"), false},
		"two of one name":                   {named("a a"), false},
		"two of one name, not in a row":     {named("a b a"), false},
		"a longer one ahead":                {named("ab a"), false},
		"a name that is none":               {named("A"), false},
		"the second's name is none":         {named("a b_"), false},
		"no name":                           {named(""), false},
		"it can't stay":                     {crafts(flier("ant", 1, lane(1, 5, 6))), false},
		"it can stay up to now":             {crafts(flier("ant", 1, lane(1, 5, 7))), true},
		"it is in a step too long":          {crafts(flier("ant", 1, lane(1, 3, 4), 4)), false},
		"it flew ahead of now":              {crafts(flier("ant", 1, p, 7)), false},
		"it has landed":                     {crafts(flier("ant", 1, lane(1, 2, 4), 3, 4, 5, 6)), false},
		"the last of two is not ok":         {crafts(flier("ant", 1, p), flier("bee", 0, p)), false},
		"the first of two is not ok":        {crafts(flier("ant", 0, p), flier("bee", 1, p)), false},
		"No equal to Number":                {func(w *impl.LinkWorld) { w.Crafts[1].No = w.Crafts[1].Number }, false},
		"No above Number":                   {func(w *impl.LinkWorld) { w.Crafts[1].No = 9 }, true},
		"No below 0":                        {func(w *impl.LinkWorld) { w.Crafts[1].No = -1 }, false},
		"no path":                           {crafts(flier("ant", 1, impl.FlyPath{})), false},
		"ok a tick ago":                     {func(w *impl.LinkWorld) { w.Now = 7 }, false},
		"ok at the last tick":               {func(w *impl.LinkWorld) { w.Now, w.Crafts = 10000, nil }, true},
		"somebody at the last tick":         {func(w *impl.LinkWorld) { w.Now, w.Crafts = 10000, []impl.LinkCraft{flier("a", 1, allTicks(), 0)} }, false},
		"somebody at the last tick but one": {func(w *impl.LinkWorld) { w.Now, w.Crafts = 9999, []impl.LinkCraft{flier("a", 1, allTicks(), 0)} }, true},
	})
}
