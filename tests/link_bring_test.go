package tests

import (
	"math"
	"slices"
	"testing"

	"loop.example/laplink/impl"
)

// onRadio is a world with just these words under way.
func onRadio(w impl.LinkWorld, words ...impl.LinkWord) impl.LinkWorld {
	w.Radio = words
	return w
}

// Of busy: ant flies under 2 and was sent 4, bee waits under 3 and was sent
// nothing.
func TestLinkStepBringsToAircraft(t *testing.T) {
	bring := asked(impl.LinkBrings, 0)
	p, next := lane(1, 5, 6), endsBy(lane(1, 5, 6), 11)
	clear := func(name string, number int, path impl.FlyPath) impl.LinkWord {
		return sayPath(impl.LinkClear, name, number, path)
	}
	gone := func(w *impl.LinkWorld) { w.Radio = w.Radio[1:] }
	answers := func(kind int, name string, number int, change func(w *impl.LinkWorld)) func(w *impl.LinkWorld) {
		return func(w *impl.LinkWorld) {
			w.Radio = append(w.Radio[1:], say(kind, name, number))
			if change != nil {
				change(w)
			}
		}
	}
	const took, refused = impl.LinkTook, impl.LinkRefused
	takes := func(w *impl.LinkWorld) { w.Crafts[0].Number, w.Crafts[0].Path = 4, next }
	no := func(place int, number int) func(w *impl.LinkWorld) {
		return func(w *impl.LinkWorld) { w.Crafts[place].No = number }
	}
	wantSteps(t, map[string]stepCase{
		"what was sent":                   {busy(), bring, answers(took, "ant", 4, takes)},
		"what was sent, not up":           {busyDown(), bring, answers(took, "ant", 4, takes)},
		"once more":                       {worldWith(busy(), takes), bring, answers(took, "ant", 4, nil)},
		"its own number, another path":    {onRadio(busy(), clear("ant", 2, lane(9, 5, 6))), bring, answers(took, "ant", 2, nil)},
		"a lesser number":                 {onRadio(busy(), clear("ant", 1, next)), bring, gone},
		"it can't go on along it":         {onRadio(busy(), clear("ant", 4, lane(2, 5, 6))), bring, answers(refused, "ant", 4, no(0, 4))},
		"it can't stay with it":           {onRadio(busy(), clear("ant", 4, withStep(p, 1, func(s *impl.FlyStep) { s.By = 6 }))), bring, answers(refused, "ant", 4, no(0, 4))},
		"it refused that":                 {worldWith(busy(), no(0, 4)), bring, answers(refused, "ant", 4, nil)},
		"it refused a greater one":        {worldWith(busy(), no(0, 9)), bring, answers(refused, "ant", 4, nil)},
		"it refused a lesser one":         {worldWith(busy(), no(0, 3)), bring, answers(took, "ant", 4, takes)},
		"to one that waits":               {onRadio(busy(), clear("bee", 5, lane(9, 8, 9))), bring, answers(took, "bee", 5, func(w *impl.LinkWorld) { w.Crafts[1].Number, w.Crafts[1].Path = 5, lane(9, 8, 9) })},
		"to one that waits, the last now": {onRadio(busy(), clear("bee", 5, lane(9, 5, 6))), bring, answers(refused, "bee", 5, no(1, 5))},
		"to one that waits, one later":    {onRadio(busy(), clear("bee", 5, lane(9, 5, 7))), bring, answers(took, "bee", 5, func(w *impl.LinkWorld) { w.Crafts[1].Number, w.Crafts[1].Path = 5, lane(9, 5, 7) })},
		"a number that nobody gave":       {onRadio(busy(), clear("bee", 1000000, lane(9, 8, 9))), bring, answers(took, "bee", 1000000, func(w *impl.LinkWorld) { w.Crafts[1].Number, w.Crafts[1].Path = 1000000, lane(9, 8, 9) })},
		"to a name that does not fly":     {onRadio(busy(), clear("cow", 4, next)), bring, gone},
		"to nobody of those in Mind":      {worldWith(busy(), func(w *impl.LinkWorld) { w.Crafts = w.Crafts[1:] }), bring, gone},
		"to the beginning of a name":      {onRadio(busy(), clear("an", 4, next)), bring, gone},
		"to a longer name":                {onRadio(busy(), clear("ants", 4, next)), bring, gone},
		"nobody flies":                    {worldWith(busy(), func(w *impl.LinkWorld) { w.Crafts = nil }), bring, gone},
		"nobody flies, not up":            {worldWith(busyDown(), func(w *impl.LinkWorld) { w.Crafts = nil }), bring, gone},
		"out of the middle": {onRadio(busy(), reports(1)[0], clear("ant", 4, next), reports(2)[1]), asked(impl.LinkBrings, 1), func(w *impl.LinkWorld) {
			w.Radio = append(reports(2), say(took, "ant", 4))
			takes(w)
		}},
		"out of a full radio":         {withRadio(busy(), 39), asked(impl.LinkBrings, 39), func(w *impl.LinkWorld) { w.Radio[39] = say(took, "ant", 4); takes(w) }},
		"out of one short of full":    {withRadio(busy(), 38), asked(impl.LinkBrings, 38), func(w *impl.LinkWorld) { w.Radio[38] = say(took, "ant", 4); takes(w) }},
		"refused, out of a full one":  {onRadio(busy(), append([]impl.LinkWord{clear("ant", 4, lane(2, 5, 6))}, reports(39)...)...), bring, answers(refused, "ant", 4, no(0, 4))},
		"nothing is said of the rest": {withOut(busy(), reports(2)...), bring, answers(took, "ant", 4, takes)},
		"to the last of eight": {onRadio(fullSky(8), clear("h", 9, lane(14, 7, 9))), bring, answers(took, "h", 9, func(w *impl.LinkWorld) {
			w.Crafts[7].Number, w.Crafts[7].Path = 9, lane(14, 7, 9)
		})},
	})
}

func TestLinkStepBringsToTheGround(t *testing.T) {
	bring := asked(impl.LinkBrings, 0)
	next := endsBy(lane(1, 5, 6), 11)
	becomes := func(held ...impl.LinkHeld) func(w *impl.LinkWorld) {
		return func(w *impl.LinkWorld) {
			w.Radio = w.Radio[1:]
			w.Ground.Mind.Held = append(held, w.Ground.Mind.Held[1:]...)
		}
	}
	takes, drops, goes := becomes(holds("ant", 4, next)), becomes(holds("ant", 2, lane(1, 5, 6))), becomes()
	gone := func(w *impl.LinkWorld) { w.Radio = w.Radio[1:] }
	const filed, took, refused, report, ended = impl.LinkFiled, impl.LinkTook, impl.LinkRefused, impl.LinkReport, impl.LinkLanded
	for name, c := range map[string]struct {
		word   impl.LinkWord
		change func(w *impl.LinkWorld)
	}{
		"took what was sent":             {say(took, "ant", 4), takes},
		"took the old one":               {say(took, "ant", 2), gone},
		"took another one":               {say(took, "ant", 3), gone},
		"refused what was sent":          {say(refused, "ant", 4), drops},
		"refused the old one":            {say(refused, "ant", 2), gone},
		"flies what was sent":            {say(report, "ant", 4), takes},
		"flies the old one":              {say(report, "ant", 2), gone},
		"landed under the old one":       {say(ended, "ant", 2), goes},
		"landed under what was sent":     {say(ended, "ant", 4), goes},
		"landed under another one":       {say(ended, "ant", 3), gone},
		"bee landed":                     {say(ended, "bee", 3), func(w *impl.LinkWorld) { gone(w); w.Ground.Mind.Held = w.Ground.Mind.Held[:1] }},
		"bee took what was not sent":     {say(took, "bee", 3), gone},
		"a name that holds nothing":      {say(took, "cow", 4), gone},
		"one that holds nothing landed":  {say(ended, "cow", 2), gone},
		"filed, by somebody":             {sayPath(filed, "cow", 4, lane(12, 9, 10)), gone},
		"filed, under what was sent":     {sayPath(filed, "ant", 4, next), gone},
		"filed, of one that flies":       {sayPath(filed, "bee", 3, lane(12, 9, 10)), gone},
		"refused, of a greater number":   {say(refused, "ant", 1000000), gone},
		"landed, of a greater number":    {say(ended, "ant", 1000000), gone},
		"took, of the beginning of ant":  {say(took, "an", 4), gone},
		"landed, of the beginning of it": {say(ended, "an", 2), gone},
	} {
		flying := onRadio(busy(), append([]impl.LinkWord{c.word}, reports(3)...)...)
		wantSteps(t, map[string]stepCase{
			name:                       {flying, bring, c.change},
			name + ", nobody flies":    {worldWith(flying, func(w *impl.LinkWorld) { w.Crafts = nil }), bring, c.change},
			name + ", not up":          {worldWith(flying, down), bring, gone},
			name + ", not up, nobody":  {worldWith(flying, down, func(w *impl.LinkWorld) { w.Crafts = nil }), bring, gone},
			name + ", what is said":    {withOut(flying, reports(40)...), bring, c.change},
			name + ", from its end":    {onRadio(flying, append(reports(39), c.word)...), asked(impl.LinkBrings, 39), func(w *impl.LinkWorld) { w.Radio = append([]impl.LinkWord{c.word}, reports(39)...); c.change(w) }},
			name + ", one name in Out": {withOut(flying, sayPath(impl.LinkClear, "ant", 4, next)), bring, c.change},
		})
	}
}

// sky is a world at a tick in which k holds and flies a path of row 1 under 1,
// having entered its first step then, and nobody else does.
func sky(now int) impl.LinkWorld {
	w := impl.LinkNew()
	w.Now = now
	p := lane(1, now, now+1)
	w.Ground.Mind, w.Ground.Disk = bookOf(1, holds("k", 1, p)), bookOf(1, holds("k", 1, p))
	w.Crafts = []impl.LinkCraft{flier("k", 1, p, now)}
	return w
}

func TestLinkStepFiles(t *testing.T) {
	free := lane(8, 9, 12)
	filed := func(name string, number int, p impl.FlyPath) func(w *impl.LinkWorld) {
		return func(w *impl.LinkWorld) {
			g := &w.Ground
			g.Mind.Last = number
			g.Mind.Held = append(g.Mind.Held, holds(name, number, p))
			slices.SortFunc(g.Mind.Held, func(a impl.LinkHeld, b impl.LinkHeld) int { return count(a.Name > b.Name) - count(a.Name < b.Name) })
			g.Out = append(g.Out, sayPath(impl.LinkFiled, name, number, p))
		}
	}
	mind := func(b impl.LinkBook) impl.LinkWorld {
		return worldWith(busy(), func(w *impl.LinkWorld) { w.Ground.Mind = b })
	}
	files := func(name string, p impl.FlyPath) impl.LinkEvent { return byHand(impl.LinkFiles, name, p) }
	wantSteps(t, map[string]stepCase{
		"into a new world":                   {impl.LinkNew(), files("cow", free), filed("cow", 1, free)},
		"behind two":                         {busy(), files("cow", free), filed("cow", 10, free)},
		"ahead of two":                       {busy(), files("a", free), filed("a", 10, free)},
		"not up":                             {busyDown(), files("cow", free), nil},
		"nobody anywhere, not up":            {impl.LinkWorld{}, files("cow", free), nil},
		"A says nothing":                     {busy(), impl.LinkEvent{Kind: impl.LinkFiles, A: -5, Name: "cow", Path: free}, filed("cow", 10, free)},
		"1: FlyMaxTick":                      {worldWith(impl.LinkNew(), func(w *impl.LinkWorld) { w.Now = 10000 }), files("cow", allTicks()), nil},
		"2: FlyMaxTick but one":              {worldWith(impl.LinkNew(), func(w *impl.LinkWorld) { w.Now = 9999 }), files("cow", allTicks()), nil},
		"2: FlyMaxTick but two":              {worldWith(impl.LinkNew(), func(w *impl.LinkWorld) { w.Now = 9998 }), files("cow", allTicks()), nil},
		"0: FlyMaxTick but three":            {worldWith(impl.LinkNew(), func(w *impl.LinkWorld) { w.Now = 9997 }), files("cow", allTicks()), filed("cow", 1, allTicks())},
		"2: no name":                         {busy(), files("", free), nil},
		"2: a name that is none":             {busy(), files("Cow", free), nil},
		"2: no flight":                       {busy(), files("cow", noFlight()), nil},
		"2: nothing":                         {busy(), files("cow", impl.FlyPath{}), nil},
		"2: its last first tick is now":      {busy(), files("cow", lane(8, 5, 6)), nil},
		"2: its last first tick is the next": {busy(), files("cow", lane(8, 5, 7)), nil},
		"0: it is one behind that":           {busy(), files("cow", lane(8, 5, 8)), filed("cow", 10, lane(8, 5, 8))},
		"3: it holds something, and waits":   {mind(bookOf(9, holds("cow", 2, lane(10, 9, 12)))), files("cow", free), nil},
		"3: its name flies, too":             {busy(), files("ant", free), nil},
		"it flies, and holds nothing":        {mind(bookOf(9)), files("ant", free), nil},
		"it waits, and holds nothing":        {mind(bookOf(9)), files("bee", free), nil},
		"it holds nothing in Mind, but on the disk": {
			worldWith(mind(bookOf(9)), func(w *impl.LinkWorld) { w.Crafts = nil }), files("ant", free), filed("ant", 10, free)},
		"4: no number left":              {mind(bookOf(1000000)), files("cow", free), nil},
		"0: the last number":             {mind(bookOf(999999)), files("cow", free), filed("cow", 1000000, free)},
		"4: eight hold something":        {mind(fullBook()), files("z", lane(1, 100, 101)), nil},
		"0: seven do":                    {mind(manyHold(7)), files("z", lane(14, 9, 12)), filed("z", 15, lane(14, 9, 12))},
		"5: beside a Path":               {busy(), files("cow", lane(7, 9, 12)), nil},
		"5: beside a Next":               {mind(bookOf(9, awaits("x", 1, lane(1, 9, 12), 2, lane(4, 9, 12)))), files("cow", lane(5, 9, 12)), nil},
		"0: beside what is on the disk":  {mind(bookOf(9)), files("cow", lane(1, 5, 9)), filed("cow", 10, lane(1, 5, 9))},
		"one short of full":              {withOut(busy(), reports(39)...), files("cow", free), filed("cow", 10, free)},
		"Out full":                       {withOut(busy(), reports(40)...), files("cow", free), nil},
		"the radio full, Out not":        {withRadio(busy(), 39), files("cow", free), filed("cow", 10, free)},
		"behind what is to be said":      {withOut(busy(), reports(2)...), files("cow", free), filed("cow", 10, free)},
		"when all eight fly":             {fullSky(8), files("cow", lane(1, 100, 101)), filed("cow", 1, lane(1, 100, 101))},
		"a path that begins ahead":       {impl.LinkWorld{Now: 50, Ground: impl.LinkGround{Up: true}}, files("cow", lane(8, 5, 60)), filed("cow", 1, lane(8, 5, 60))},
		"somebody's last tick is behind": {sky(12), files("cow", lane(2, 19, 20)), filed("cow", 2, lane(2, 19, 20))},
	})
}

// backLane is a lane that is flown the other way, and so begins where one of
// the row beside it ends.
func backLane(row int, from int, by int) impl.FlyPath {
	p := lane(row, from, by)
	for i := range p.Steps {
		p.Steps[i].X = 2 - i
	}
	return p
}

// k's boxes end at 18. What is filed at a tick must be free from this tick on,
// not only from the next one, or the book would not be ok now (promise 17).
func TestLinkStepFilesWhereSomebodyIsAtTheLastTick(t *testing.T) {
	for now, filed := range map[int]bool{16: false, 17: false, 18: false, 19: true, 20: true} {
		w := worldWith(sky(12), func(w *impl.LinkWorld) { w.Now, w.Crafts = now, nil })
		early, late := backLane(2, 3, 24), backLane(2, now+1, 24)
		got := impl.LinkStep(w, byHand(impl.LinkFiles, "cow", early))
		if (len(got.Ground.Mind.Held) == 2) != filed || !impl.LinkWorldOk(got) {
			t.Errorf("now %d, under way ahead: %+v", now, got)
		}
		// One that can't be in the air at this tick is in nobody's way now.
		got = impl.LinkStep(w, byHand(impl.LinkFiles, "cow", late))
		if (len(got.Ground.Mind.Held) == 2) != (filed || now == 18) || !impl.LinkWorldOk(got) {
			t.Errorf("now %d, under way behind: %+v", now, got)
		}
	}
}

func TestLinkStepSends(t *testing.T) {
	free := lane(8, 9, 12)
	sent := func(place int, number int, p impl.FlyPath) func(w *impl.LinkWorld) {
		return func(w *impl.LinkWorld) {
			g := &w.Ground
			g.Mind.Last, g.Mind.Held[place].Sent, g.Mind.Held[place].Next = number, number, p
			if len(g.Out) < 40 {
				g.Out = append(g.Out, sayPath(impl.LinkClear, g.Mind.Held[place].Name, number, p))
			}
		}
	}
	mind := func(b impl.LinkBook) impl.LinkWorld {
		return worldWith(busy(), func(w *impl.LinkWorld) { w.Ground.Mind = b })
	}
	sends := func(name string, p impl.FlyPath) impl.LinkEvent { return byHand(impl.LinkSends, name, p) }
	three := bookOf(9, holds("ant", 2, lane(1, 5, 6)), holds("bee", 3, lane(6, 9, 12)), holds("cow", 7, lane(10, 9, 12)))
	wantSteps(t, map[string]stepCase{
		"to one that waits":                      {busy(), sends("bee", free), sent(1, 10, free)},
		"to one that flies":                      {mind(three), sends("ant", endsBy(lane(1, 5, 6), 9)), sent(0, 10, endsBy(lane(1, 5, 6), 9))},
		"to one that is not there":               {mind(three), sends("cow", free), sent(2, 10, free)},
		"not up":                                 {busyDown(), sends("bee", free), nil},
		"A says nothing":                         {busy(), impl.LinkEvent{Kind: impl.LinkSends, A: math.MinInt, Name: "bee", Path: free}, sent(1, 10, free)},
		"its last first tick is now":             {busy(), sends("bee", lane(8, 5, 6)), sent(1, 10, lane(8, 5, 6))},
		"a path that is over":                    {busy(), sends("bee", lane(8, 0, 0)), sent(1, 10, lane(8, 0, 0))},
		"2: no flight":                           {busy(), sends("bee", noFlight()), nil},
		"2: nothing":                             {busy(), sends("bee", impl.FlyPath{}), nil},
		"6: nobody":                              {busy(), sends("cow", free), nil},
		"6: no name":                             {busy(), sends("", free), nil},
		"6: it flies, and holds nothing in Mind": {mind(bookOf(9)), sends("bee", free), nil},
		"7: not answered":                        {busy(), sends("ant", free), nil},
		"7: what was sent, once more":            {busy(), sends("ant", endsBy(lane(1, 5, 6), 11)), nil},
		"4: no number left":                      {mind(lastNumber(three)), sends("ant", free), nil},
		"0: the last number":                     {mind(bookOf(999999, three.Held...)), sends("ant", free), sent(0, 1000000, free)},
		"5: beside a Path":                       {mind(three), sends("ant", lane(7, 9, 12)), nil},
		"5: beside a Next":                       {busy(), sends("bee", lane(2, 5, 6)), nil},
		"5: at its last tick": {worldWith(sky(12), func(w *impl.LinkWorld) {
			w.Now, w.Crafts = 18, nil
			w.Ground.Mind = bookOf(2, holds("b", 2, lane(5, 9, 20)), w.Ground.Mind.Held[0])
		}), sends("b", lane(2, 3, 24)), nil},
		"0: one behind that": {worldWith(sky(12), func(w *impl.LinkWorld) {
			w.Now, w.Crafts = 19, nil
			w.Ground.Mind = bookOf(2, holds("b", 2, lane(5, 9, 20)), w.Ground.Mind.Held[0])
		}), sends("b", lane(2, 3, 24)), sent(0, 3, lane(2, 3, 24))},
		"0: beside what it holds itself":              {busy(), sends("bee", lane(6, 9, 11)), sent(1, 10, lane(6, 9, 11))},
		"one short of full":                           {withOut(busy(), reports(39)...), sends("bee", free), sent(1, 10, free)},
		"Out full: it is in the book, and not said":   {withOut(busy(), reports(40)...), sends("bee", free), sent(1, 10, free)},
		"the radio full, Out not":                     {withRadio(busy(), 39), sends("bee", free), sent(1, 10, free)},
		"at FlyMaxTick":                               {worldWith(mind(three), func(w *impl.LinkWorld) { w.Now, w.Crafts = 10000, nil }), sends("ant", free), sent(0, 10, free)},
		"the disk alone knows them":                   {mind(impl.LinkBook{Last: 9}), sends("ant", free), nil},
		"behind what is to be said, and not the disk": {withOut(busy(), reports(2)...), sends("bee", free), sent(1, 10, free)},
	})
}

func TestLinkStepRepeats(t *testing.T) {
	next := endsBy(lane(1, 5, 6), 11)
	again := func(w *impl.LinkWorld) {
		w.Ground.Out = append(w.Ground.Out, sayPath(impl.LinkClear, "ant", 4, next))
	}
	repeats := func(name string) impl.LinkEvent { return byHand(impl.LinkRepeats, name, impl.FlyPath{}) }
	wantSteps(t, map[string]stepCase{
		"what was sent":             {busy(), repeats("ant"), again},
		"nothing was sent":          {busy(), repeats("bee"), nil},
		"nobody":                    {busy(), repeats("cow"), nil},
		"no name":                   {busy(), repeats(""), nil},
		"the beginning of a name":   {busy(), repeats("an"), nil},
		"not up":                    {busyDown(), repeats("ant"), nil},
		"nobody anywhere":           {impl.LinkNew(), repeats("ant"), nil},
		"one short of full":         {withOut(busy(), reports(39)...), repeats("ant"), again},
		"Out full":                  {withOut(busy(), reports(40)...), repeats("ant"), nil},
		"a second time":             {withOut(busy(), sayPath(impl.LinkClear, "ant", 4, next)), repeats("ant"), again},
		"nobody of the name flies":  {worldWith(busy(), func(w *impl.LinkWorld) { w.Crafts = nil }), repeats("ant"), again},
		"on the disk alone":         {worldWith(busy(), func(w *impl.LinkWorld) { w.Ground.Mind = bookOf(9) }), repeats("ant"), nil},
		"in Mind alone":             {worldWith(busy(), func(w *impl.LinkWorld) { w.Ground.Disk = bookOf(9) }), repeats("ant"), again},
		"the event's path is none":  {busy(), impl.LinkEvent{Kind: impl.LinkRepeats, A: 7, Name: "ant", Path: lane(3, 4, 5)}, again},
		"the radio full, Out not":   {withRadio(busy(), 39), repeats("ant"), again},
		"the last tick of all":      {worldWith(busy(), func(w *impl.LinkWorld) { w.Now, w.Crafts = 10000, nil }), repeats("ant"), again},
		"the answer is under way":   {onRadio(busy(), say(impl.LinkTook, "ant", 4)), repeats("ant"), again},
		"answered in Mind, not yet": {worldWith(busy(), func(w *impl.LinkWorld) { w.Ground.Mind.Held[0] = holds("ant", 4, next) }), repeats("ant"), nil},
	})
}

func TestLinkStepFallsAndRises(t *testing.T) {
	fall, rise := asked(impl.LinkFalls, 0), asked(impl.LinkRises, 0)
	other := bookOf(20, holds("cow", 12, lane(10, 9, 12)))
	wantSteps(t, map[string]stepCase{
		"a new world falls":            {impl.LinkNew(), fall, func(w *impl.LinkWorld) { w.Ground.Up = false }},
		"it falls":                     {busy(), fall, down},
		"it falls with words to say":   {withOut(busy(), reports(40)...), fall, down},
		"it falls, Mind not written":   {worldWith(busy(), func(w *impl.LinkWorld) { w.Ground.Mind = other }), fall, down},
		"it falls, nobody in Mind":     {worldWith(busy(), func(w *impl.LinkWorld) { w.Ground.Mind = bookOf(30) }), fall, down},
		"it is not up, and falls":      {busyDown(), fall, nil},
		"it is not up, Last stays":     {worldWith(busyDown(), func(w *impl.LinkWorld) { w.Ground.Mind.Last = 5 }), fall, nil},
		"a new world rises":            {impl.LinkNew(), rise, nil},
		"nothing rises":                {impl.LinkWorld{}, rise, func(w *impl.LinkWorld) { w.Ground.Up = true }},
		"it rises":                     {busyDown(), rise, func(w *impl.LinkWorld) { w.Ground.Up, w.Ground.Mind = true, w.Ground.Disk }},
		"it rises, Last in Mind goes":  {worldWith(busyDown(), func(w *impl.LinkWorld) { w.Ground.Mind.Last = 77 }), rise, func(w *impl.LinkWorld) { w.Ground.Up, w.Ground.Mind = true, w.Ground.Disk }},
		"it is up, and rises":          {busy(), rise, nil},
		"up, others in Mind, it rises": {withOut(worldWith(busy(), func(w *impl.LinkWorld) { w.Ground.Mind = other }), reports(2)...), rise, nil},
		"it rises at the last tick":    {impl.LinkWorld{Now: 10000, Ground: impl.LinkGround{Disk: other}}, rise, func(w *impl.LinkWorld) { w.Ground.Up, w.Ground.Mind = true, other }},
		"it falls at the last tick":    {impl.LinkWorld{Now: 10000, Ground: impl.LinkGround{Up: true, Mind: other}}, fall, func(w *impl.LinkWorld) { w.Ground = impl.LinkGround{} }},
	})
}

func TestLinkStepWrites(t *testing.T) {
	tick := asked(impl.LinkTicks, 0)
	filed := func(name string, number int, p impl.FlyPath) impl.LinkWord {
		return sayPath(impl.LinkFiled, name, number, p)
	}
	// empty is a world at 6 with nobody, in which words are to be said.
	empty := func(words ...impl.LinkWord) impl.LinkWorld {
		return withOut(impl.LinkWorld{Now: 6, Ground: impl.LinkGround{Up: true}}, words...)
	}
	comes := func(crafts ...impl.LinkCraft) func(w *impl.LinkWorld) {
		return func(w *impl.LinkWorld) { w.Now, w.Ground.Out, w.Crafts = w.Now+1, nil, crafts }
	}
	mind := func(held ...impl.LinkHeld) impl.LinkWorld {
		return worldWith(empty(), func(w *impl.LinkWorld) { w.Ground.Mind = bookOf(9, held...) })
	}
	written := func(held ...impl.LinkHeld) func(w *impl.LinkWorld) {
		return func(w *impl.LinkWorld) {
			w.Now = 7
			w.Ground.Mind, w.Ground.Disk = bookOf(9, held...), bookOf(9, held...)
		}
	}
	p, q, r := lane(1, 9, 12), lane(4, 9, 12), lane(8, 9, 12)
	// Its boxes end at 6, and at 7.
	past, last := lane(12, 0, 1), lane(12, 0, 2)
	eight := func(words ...impl.LinkWord) impl.LinkWorld { return withOut(fullSky(8), words...) }
	seven := func(words ...impl.LinkWord) impl.LinkWorld { return withOut(fullSky(7), words...) }
	wantSteps(t, map[string]stepCase{
		"one who is past goes":             {mind(holds("a", 1, p), holds("b", 2, past), holds("c", 3, q)), tick, written(holds("a", 1, p), holds("c", 3, q))},
		"one whose last tick is now stays": {mind(holds("b", 2, last)), tick, written(holds("b", 2, last))},
		"Next is not past":                 {mind(awaits("b", 2, past, 3, last)), tick, written(awaits("b", 2, past, 3, last))},
		"Path is not past":                 {mind(awaits("b", 2, last, 3, past)), tick, written(awaits("b", 2, last, 3, past))},
		"both are past":                    {mind(awaits("b", 2, past, 3, past)), tick, written()},
		"one comes in":                     {empty(filed("a", 1, p)), tick, comes(flier("a", 1, p))},
		"two come in, in order":            {empty(filed("b", 1, p), filed("a", 2, q)), tick, comes(flier("a", 2, q), flier("b", 1, p))},
		"at the front": {withOut(busy(), filed("a", 10, r)), tick, func(w *impl.LinkWorld) {
			w.Crafts[0].Flown = []int{5, 7}
			comes(flier("a", 10, r), w.Crafts[0], w.Crafts[1])(w)
		}},
		"in between": {withOut(busy(), filed("ants", 10, r)), tick, func(w *impl.LinkWorld) {
			w.Crafts[0].Flown = []int{5, 7}
			comes(w.Crafts[0], flier("ants", 10, r), w.Crafts[1])(w)
		}},
		"at the end": {withOut(busy(), filed("bees", 10, r)), tick, func(w *impl.LinkWorld) {
			w.Crafts[0].Flown = []int{5, 7}
			comes(w.Crafts[0], w.Crafts[1], flier("bees", 10, r))(w)
		}},
		"its name flies already":              {withOut(busy(), filed("bee", 10, r)), tick, func(w *impl.LinkWorld) { w.Crafts[0].Flown = []int{5, 7}; comes(w.Crafts...)(w) }},
		"two of one name":                     {empty(filed("a", 1, p), filed("a", 2, q)), tick, comes(flier("a", 1, p))},
		"it is not ok now":                    {empty(filed("a", 1, lane(1, 5, 7))), tick, comes()},
		"it is ok now, and not a tick later":  {empty(filed("a", 1, lane(1, 5, 8))), tick, comes(flier("a", 1, lane(1, 5, 8)))},
		"it is long past":                     {empty(filed("a", 1, past)), tick, comes()},
		"not ok, and then ok":                 {empty(filed("a", 1, past), filed("a", 2, q)), tick, comes(flier("a", 2, q))},
		"eight fly":                           {eight(filed("z", 9, r)), tick, func(w *impl.LinkWorld) { comes(w.Crafts...)(w) }},
		"seven fly":                           {seven(filed("z", 9, r)), tick, func(w *impl.LinkWorld) { comes(append(w.Crafts, flier("z", 9, r))...)(w) }},
		"seven fly, two are filed":            {seven(filed("z", 9, r), filed("x", 10, r)), tick, func(w *impl.LinkWorld) { comes(append(w.Crafts, flier("z", 9, r))...)(w) }},
		"seven fly, the first is not ok":      {seven(filed("z", 9, lane(1, 0, 1)), filed("x", 10, r)), tick, func(w *impl.LinkWorld) { comes(append(w.Crafts, flier("x", 10, r))...)(w) }},
		"it is not put on the radio":          {withRadio(empty(filed("a", 1, p)), 39), tick, comes(flier("a", 1, p))},
		"the radio is full, it comes in":      {withRadio(empty(filed("a", 1, p)), 40), tick, comes(flier("a", 1, p))},
		"not up: nothing is left to be said":  {worldWith(empty(), down), tick, func(w *impl.LinkWorld) { w.Now = 7 }},
		"who is not in the book comes in":     {worldWith(empty(filed("a", 1, p)), func(w *impl.LinkWorld) { w.Ground.Disk = bookOf(9, holds("a", 1, q)) }), tick, func(w *impl.LinkWorld) { comes(flier("a", 1, p))(w); w.Ground.Disk = impl.LinkBook{} }},
		"one who lands makes room":            {withOut(lastSteps(8), filed("z", 9, r)), tick, func(w *impl.LinkWorld) { landAll(w); comes(flier("z", 9, r))(w) }},
		"one who lands leaves its name":       {withOut(lastSteps(2), filed("b", 9, r)), tick, func(w *impl.LinkWorld) { landAll(w); comes(flier("b", 9, r))(w) }},
		"each other kind is put on the radio": {withRadio(empty(sayPath(2, "a", 1, p), say(3, "a", 2), say(4, "a", 3), say(5, "a", 4), say(6, "a", 5)), 2), tick, func(w *impl.LinkWorld) { w.Now, w.Radio, w.Ground.Out = 7, append(w.Radio, w.Ground.Out...), nil }},
		"what is said in between": {empty(say(3, "a", 2), filed("b", 1, p), say(4, "a", 3), filed("a", 2, q), say(5, "a", 4)), tick, func(w *impl.LinkWorld) {
			comes(flier("a", 2, q), flier("b", 1, p))(w)
			w.Radio = []impl.LinkWord{say(3, "a", 2), say(4, "a", 3), say(5, "a", 4)}
		}},
		"one place left on the radio":    {withRadio(empty(reports(3)...), 39), tick, func(w *impl.LinkWorld) { w.Now, w.Radio, w.Ground.Out = 7, append(w.Radio, reports(1)[0]), nil }},
		"no place left, filed behind it": {withRadio(empty(say(3, "a", 2), filed("b", 1, p)), 40), tick, comes(flier("b", 1, p))},
		"forty to be said": {empty(reports(40)...), tick, func(w *impl.LinkWorld) {
			w.Now, w.Radio, w.Ground.Out = 7, reports(40), nil
		}},
	})
}

// landAll takes out all aircraft, from the last to the first.
func landAll(w *impl.LinkWorld) {
	for _, c := range slices.Backward(w.Crafts) {
		w.Radio = append(w.Radio, landed(c.Name, c.Number))
	}
	w.Crafts = nil
}
