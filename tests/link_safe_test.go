package tests

import (
	"math"
	"slices"
	"testing"

	"loop.example/laplink/impl"
)

// spot is a path of one step, entered at a tick of a span and left at a tick of
// another one; it may be held in.
func spot(x int, y int, in impl.FlySpan, out impl.FlySpan) impl.FlyPath {
	step := impl.FlyStep{X: x, Y: y, Low: 1, High: 3, From: in.Low, By: in.High, Hold: true}
	return impl.FlyPath{Kind: impl.FlyKind{Quick: 1, Slow: 50}, Steps: []impl.FlyStep{step}, From: out.Low, By: out.High}
}

// there is a spot that was or is entered up to 20.
func there(x int, y int) impl.FlyPath {
	return spot(x, y, spanOf(0, 20), spanOf(0, 60))
}

// onLevels is a path whose steps all have these levels.
func onLevels(p impl.FlyPath, low int, high int) impl.FlyPath {
	p.Steps = slices.Clone(p.Steps)
	for i := range p.Steps {
		p.Steps[i].Low, p.Steps[i].High = low, high
	}
	return p
}

// skyOf is a world at a tick in which these fly, and nobody is in the books.
func skyOf(now int, crafts ...impl.LinkCraft) impl.LinkWorld {
	w := impl.LinkNew()
	w.Now, w.Crafts = now, crafts
	return w
}

// plainApart says once more what chapter 26 says of two in a step each.
func plainApart(crafts []impl.LinkCraft, tick int) bool {
	var boxes []impl.ProbeBox
	for _, c := range crafts {
		if k := len(c.Flown) - 1; k >= 0 {
			s := c.Path.Steps[k]
			boxes = append(boxes, impl.ProbeBox{X: s.X, Y: s.Y, Low: s.Low, High: s.High, In: tick, Out: tick})
		}
	}
	for i := range boxes {
		for j := i + 1; j < len(boxes); j++ {
			if plainNear(boxes[i], boxes[j], tick) {
				return false
			}
		}
	}
	return true
}

// plainAlone lets tick after tick pass, as chapter 26 says.
func plainAlone(w impl.LinkWorld, early bool) (int, bool) {
	if !plainWorldOk(w) {
		return 0, false
	}
	crafts := slices.Clone(w.Crafts)
	for tick := w.Now; ; tick++ {
		if tick > w.Now {
			var up []impl.LinkCraft
			for _, c := range crafts {
				if early || impl.LinkMust(c, tick) {
					c, _ = impl.LinkMove(c, tick)
				}
				if len(c.Flown) <= len(c.Path.Steps) {
					up = append(up, c)
				}
			}
			crafts = up
		}
		if len(crafts) == 0 {
			return tick, true
		}
		if !plainApart(crafts, tick) || tick == 10000 {
			return 0, false
		}
	}
}

// plainKept says once more what chapter 26 says of the disk.
func plainKept(w impl.LinkWorld) bool {
	kept := plainWorldOk(w)
	for _, c := range w.Crafts {
		found := false
		for _, h := range w.Ground.Disk.Held {
			held := h.Number == c.Number && samePath(h.Path, c.Path)
			sent := h.Sent == c.Number && samePath(h.Next, c.Path)
			found = found || h.Name == c.Name && (held || sent)
		}
		kept = kept && found
	}
	return kept
}

// plainCalm is so many calm rounds, event by event.
func plainCalm(w impl.LinkWorld, rounds int) impl.LinkWorld {
	if !plainWorldOk(w) {
		return impl.LinkWorld{}
	}
	for range min(rounds, 1000) {
		w = plainStep(w, asked(1, 0))
		for range len(w.Radio) {
			w = plainStep(w, asked(3, 0))
		}
		for _, h := range w.Ground.Mind.Held {
			if w.Ground.Up {
				w = plainStep(w, byHand(8, h.Name, impl.FlyPath{}))
			}
		}
	}
	return w
}

func TestLinkApart(t *testing.T) {
	in := func(name string, p impl.FlyPath) impl.LinkCraft { return flier(name, 1, p, 5) }
	waits := func(name string, p impl.FlyPath) impl.LinkCraft { return flier(name, 1, p) }
	long := lane(4, 5, 6)
	for name, c := range map[string]struct {
		world impl.LinkWorld
		apart bool
	}{
		"nobody":                              {impl.LinkNew(), true},
		"nobody, not up":                      {impl.LinkWorld{}, true},
		"one":                                 {skyOf(5, in("a", there(5, 5))), true},
		"one cell":                            {skyOf(5, in("a", there(5, 5)), in("b", there(5, 5))), false},
		"one cell, not up":                    {worldWith(skyOf(5, in("a", there(5, 5)), in("b", there(5, 5))), down), false},
		"one cell, at a later tick":           {skyOf(30, in("a", there(5, 5)), in("b", there(5, 5))), false},
		"side by side":                        {skyOf(5, in("a", there(5, 5)), in("b", there(6, 5))), false},
		"ahead of each other":                 {skyOf(5, in("a", there(5, 5)), in("b", there(5, 4))), false},
		"cornerwise":                          {skyOf(5, in("a", there(5, 5)), in("b", there(4, 6))), false},
		"two apart in X":                      {skyOf(5, in("a", there(5, 5)), in("b", there(7, 5))), true},
		"two apart in Y":                      {skyOf(5, in("a", there(5, 5)), in("b", there(5, 3))), true},
		"two apart in X, one in Y":            {skyOf(5, in("a", there(5, 5)), in("b", there(3, 6))), true},
		"at two corners of all":               {skyOf(5, in("a", there(0, 0)), in("b", there(15, 15))), true},
		"one cell, one above the other":       {skyOf(5, in("a", there(5, 5)), in("b", onLevels(there(5, 5), 4, 6))), true},
		"one cell, one level in common":       {skyOf(5, in("a", there(5, 5)), in("b", onLevels(there(5, 5), 3, 6))), false},
		"one cell, the lowest level":          {skyOf(5, in("a", there(5, 5)), in("b", onLevels(there(5, 5), 0, 1))), false},
		"one cell, below each other":          {skyOf(5, in("a", there(5, 5)), in("b", onLevels(there(5, 5), 0, 0))), true},
		"one waits":                           {skyOf(5, in("a", there(5, 5)), waits("b", there(5, 5))), true},
		"the other waits":                     {skyOf(5, waits("a", there(5, 5)), in("b", there(5, 5))), true},
		"both wait":                           {skyOf(5, waits("a", there(5, 5)), waits("b", there(5, 5))), true},
		"the first and the third":             {skyOf(5, in("a", there(5, 5)), in("b", there(9, 9)), in("c", there(5, 6))), false},
		"the second and the third":            {skyOf(5, in("a", there(1, 1)), in("b", there(9, 9)), in("c", there(9, 8))), false},
		"the first and the second":            {skyOf(5, in("a", there(9, 8)), in("b", there(9, 9)), in("c", there(1, 1))), false},
		"one between two":                     {skyOf(5, in("a", there(5, 5)), in("b", there(7, 5)), in("c", there(9, 5))), true},
		"one between two waits":               {skyOf(5, in("a", there(5, 5)), waits("b", there(6, 5)), in("c", there(7, 5))), true},
		"the step that it is in":              {skyOf(7, flier("a", 1, long, 5, 6, 7), flier("b", 1, there(2, 5), 7)), false},
		"a step that it was in":               {skyOf(7, flier("a", 1, long, 5, 6, 7), flier("b", 1, there(0, 5), 7)), true},
		"a step that it will be in":           {skyOf(6, flier("a", 1, long, 6), flier("b", 1, there(2, 5), 6)), true},
		"the first step of three":             {skyOf(6, flier("a", 1, long, 6), flier("b", 1, there(1, 5), 6)), false},
		"paths too near, not they":            {skyOf(7, flier("a", 1, long, 5, 6, 7), flier("b", 1, long, 6)), true},
		"paths too near, and they, too":       {skyOf(7, flier("a", 1, long, 5, 6, 7), flier("b", 1, long, 5, 6)), false},
		"the books do not matter":             {worldWith(skyOf(5, in("a", there(9, 9))), func(w *impl.LinkWorld) { w.Ground.Mind = bookOf(1, holds("b", 1, there(9, 9))) }), true},
		"eight apart":                         {fullSky(8), true},
		"at the last tick but one":            {skyOf(9999, flier("a", 1, allTicks(), 0), flier("b", 1, allTicks(), 9)), false},
		"at the last tick, nobody":            {skyOf(10000), true},
		"not ok: now below 0":                 {skyOf(-1), false},
		"not ok: a book":                      {worldWith(skyOf(5, in("a", there(5, 5))), func(w *impl.LinkWorld) { w.Ground.Disk.Last = -1 }), false},
		"not ok: out of order":                {skyOf(5, in("b", there(5, 5)), in("a", there(9, 9))), false},
		"not ok: one who can't stay":          {skyOf(60, in("a", there(5, 5))), false},
		"not ok: one who flew more than that": {skyOf(5, flier("a", 1, there(5, 5), 1, 2, 3, 4, 5)), false},
	} {
		if got := impl.LinkApart(c.world); got != c.apart || c.apart != (plainWorldOk(c.world) && plainApart(c.world.Crafts, c.world.Now)) {
			t.Errorf("%s: %v", name, got)
		}
	}
}

func TestLinkKept(t *testing.T) {
	p, q := lane(1, 9, 12), endsBy(lane(1, 9, 12), 20)
	disk := func(craft impl.LinkCraft, held ...impl.LinkHeld) impl.LinkWorld {
		return worldWith(skyOf(5, craft), func(w *impl.LinkWorld) { w.Ground.Disk = bookOf(9, held...) })
	}
	both := awaits("k", 2, p, 4, q)
	for name, c := range map[string]struct {
		world impl.LinkWorld
		kept  bool
	}{
		"nobody":                        {impl.LinkNew(), true},
		"nobody, somebody on the disk":  {worldWith(impl.LinkNew(), func(w *impl.LinkWorld) { w.Ground.Disk = bookOf(9, both) }), true},
		"under Number and Path":         {disk(flier("k", 2, p), holds("k", 2, p)), true},
		"under Number and Path of both": {disk(flier("k", 2, p), both), true},
		"under Sent and Next":           {disk(flier("k", 4, q), both), true},
		"Number with Next":              {disk(flier("k", 2, q), both), false},
		"Sent with Path":                {disk(flier("k", 4, p), both), false},
		"another number":                {disk(flier("k", 3, p), both), false},
		"another number, Next":          {disk(flier("k", 3, q), both), false},
		"nothing sent, another path":    {disk(flier("k", 2, q), holds("k", 2, p)), false},
		"nobody on the disk":            {disk(flier("k", 2, p)), false},
		"another name":                  {disk(flier("k", 2, p), holds("l", 2, p)), false},
		"the beginning of the name":     {disk(flier("kk", 2, p), holds("k", 2, p)), false},
		"another one's Next":            {disk(flier("k", 4, q), awaits("l", 2, p, 4, q)), false},
		"its name, another one's path":  {disk(flier("k", 2, p), holds("k", 3, lane(5, 9, 12)), holds("l", 2, p)), false},
		"the second on the disk":        {disk(flier("k", 2, p), holds("a", 3, lane(5, 9, 12)), holds("k", 2, p)), true},
		"both alike, Sent":              {disk(flier("k", 4, p), awaits("k", 2, p, 4, p)), true},
		"both alike, Number":            {disk(flier("k", 2, p), awaits("k", 2, p, 4, p)), true},
		"another Quick":                 {disk(flier("k", 2, p), holds("k", 2, withKind(p, 2, 2))), false},
		"another Slow":                  {disk(flier("k", 2, p), holds("k", 2, withKind(p, 1, 3))), false},
		"another From":                  {disk(flier("k", 2, p), holds("k", 2, withEnds(p, 1, p.By))), false},
		"another By":                    {disk(flier("k", 2, p), holds("k", 2, withEnds(p, 0, p.By-1))), false},
		"another step":                  {disk(flier("k", 2, p), holds("k", 2, withStep(p, 2, func(s *impl.FlyStep) { s.Hold = true }))), false},
		"another first step":            {disk(flier("k", 2, p), holds("k", 2, withStep(p, 0, func(s *impl.FlyStep) { s.By = 11 }))), false},
		"one step less":                 {disk(flier("k", 2, p), holds("k", 2, firstSteps(p, 2))), false},
		"one step more":                 {disk(flier("k", 2, firstSteps(p, 2)), holds("k", 2, p)), false},
		"in Mind alone":                 {worldWith(disk(flier("k", 2, p)), func(w *impl.LinkWorld) { w.Ground.Mind = bookOf(9, both) }), false},
		"on the disk alone, not up":     {worldWith(disk(flier("k", 2, p), both), down), true},
		"No does not matter":            {worldWith(disk(flier("k", 2, p), both), func(w *impl.LinkWorld) { w.Crafts[0].No = 4 }), true},
		"what was flown does not":       {worldWith(disk(flier("k", 2, p), both), func(w *impl.LinkWorld) { w.Now, w.Crafts[0].Flown = 10, []int{9, 10} }), true},
		"two":                           {busy(), true},
		"two, the first is not":         {worldWith(busy(), func(w *impl.LinkWorld) { w.Crafts[0].Number = 1 }), false},
		"two, the second is not":        {worldWith(busy(), func(w *impl.LinkWorld) { w.Crafts[1].Number = 1 }), false},
		"three, one not on the disk":    {worldWith(busy(), func(w *impl.LinkWorld) { w.Crafts = append(w.Crafts, flier("cow", 7, lane(12, 9, 12))) }), false},
		"not ok: now past FlyMaxTick":   {skyOf(10001), false},
		"not ok: Mind":                  {worldWith(busy(), func(w *impl.LinkWorld) { w.Ground.Mind.Last = 1 }), false},
		"not ok: a word":                {worldWith(busy(), func(w *impl.LinkWorld) { w.Radio[0].Number = 0 }), false},
		"not ok: an aircraft":           {worldWith(busy(), func(w *impl.LinkWorld) { w.Now = 7 }), false},
	} {
		if got := impl.LinkKept(c.world); got != c.kept || c.kept != plainKept(c.world) {
			t.Errorf("%s: %v", name, got)
		}
	}
}

func withKind(p impl.FlyPath, quick int, slow int) impl.FlyPath {
	p.Kind = impl.FlyKind{Quick: quick, Slow: slow}
	return p
}

func withEnds(p impl.FlyPath, from int, by int) impl.FlyPath {
	p.From, p.By = from, by
	return p
}

func firstSteps(p impl.FlyPath, size int) impl.FlyPath {
	p.Steps = p.Steps[:size]
	return p
}

// never stands for what LinkAlone tells with false.
const never = -1

// wantAlone holds LinkAlone against the ticks of a world, early and late.
func wantAlone(t *testing.T, name string, w impl.LinkWorld, early int, late int) {
	t.Helper()
	for _, c := range []struct {
		early bool
		tick  int
	}{{true, early}, {false, late}} {
		tick, ok := impl.LinkAlone(w, c.early)
		if ok != (c.tick != never) || tick != max(c.tick, 0) {
			t.Errorf("%s, early is %v: %d %v, not %d", name, c.early, tick, ok, c.tick)
		}
		if plain, plainOk := plainAlone(w, c.early); plain != tick || plainOk != ok {
			t.Errorf("%s, early is %v: %d %v, not %d %v", name, c.early, tick, ok, plain, plainOk)
		}
	}
}

func TestLinkAlone(t *testing.T) {
	// leaves is one in a cell that it may leave at these ticks, comes one that
	// may come into the cell beside it then, and stays for three ticks.
	leaves := func(low int, high int) impl.LinkCraft {
		return flier("a", 1, spot(5, 5, spanOf(0, 3), spanOf(low, high)), 3)
	}
	comes := func(low int, high int) impl.LinkCraft {
		p := spot(6, 5, spanOf(low, high), spanOf(0, 99))
		p.Steps[0].Hold, p.Kind = false, impl.FlyKind{Quick: 3, Slow: 3}
		return flier("b", 2, p)
	}
	for name, c := range map[string]struct {
		world impl.LinkWorld
		early int
		late  int
	}{
		"nobody":                       {impl.LinkNew(), 0, 0},
		"nobody, now 77":               {skyOf(77), 77, 77},
		"nobody, not up":               {impl.LinkWorld{Now: 5}, 5, 5},
		"nobody, FlyMaxTick":           {skyOf(10000), 10000, 10000},
		"one":                          {skyOf(4, leaves(7, 9)), 7, 9},
		"one, it may at once":          {skyOf(7, leaves(7, 9)), 8, 9},
		"one, it must at once":         {skyOf(8, leaves(7, 9)), 9, 9},
		"one that waits":               {skyOf(0, comes(7, 9)), 10, 12},
		"one that waits, past From":    {skyOf(8, comes(7, 9)), 12, 12},
		"three steps":                  {skyOf(0, flier("a", 1, lane(1, 5, 6))), 8, 12},
		"three steps, in the second":   {skyOf(7, flier("a", 1, lane(1, 5, 6), 5, 6)), 9, 10},
		"busy":                         {busy(), 12, 18},
		"busy, not up":                 {busyDown(), 12, 18},
		"an end that pulls back":       {skyOf(0, flier("a", 1, endsBy(lane(1, 5, 6), 9))), 8, 9},
		"apart in time":                {skyOf(4, leaves(5, 6), comes(7, 9)), 10, 12},
		"one leaves as the other's in": {skyOf(4, leaves(7, 9), comes(7, 9)), 10, 12},
		"one tick too early":           {skyOf(4, leaves(7, 9), comes(6, 9)), never, 12},
		"one tick too late":            {skyOf(4, leaves(7, 10), comes(7, 9)), 10, never},
		"both":                         {skyOf(4, leaves(8, 11), comes(7, 9)), never, never},
		"as it is now":                 {skyOf(4, leaves(8, 11), flier("b", 2, there(6, 5), 2)), never, never},
		"as it is now, both leave":     {skyOf(4, leaves(5, 5), flier("b", 2, spot(6, 5, spanOf(0, 9), spanOf(5, 5)), 2)), never, never},
		"as it is now, one waits":      {skyOf(4, leaves(8, 11), flier("b", 2, spot(5, 5, spanOf(15, 20), spanOf(30, 60)))), 30, 60},
		"the first and the third": {skyOf(4, leaves(8, 11), flier("b", 2, there(15, 15), 2), flier("c", 3, spot(5, 6, spanOf(5, 15), spanOf(20, 60)))),
			never, 60},
		"two that go past each other": {skyOf(5, flier("a", 1, lane(1, 5, 6), 5), flier("b", 2, backLane(2, 5, 6), 5)), never, never},
		"two on different levels":     {skyOf(5, flier("a", 1, lane(1, 5, 6), 5), flier("b", 2, onLevels(backLane(2, 5, 6), 3, 4), 5)), 8, 11},
		"to the last tick of all":     {skyOf(0, flier("a", 1, allTicks(), 0)), 1, 10000},
		"to the last tick, it waits":  {skyOf(0, flier("a", 1, allTicks())), 2, 10000},
		"at the last tick but one":    {skyOf(9999, flier("a", 1, allTicks(), 0)), 10000, 10000},
		"two, to the last tick":       {skyOf(9000, flier("a", 1, spot(1, 1, spanOf(0, 9), spanOf(9990, 10000)), 9), flier("b", 1, allTicks(), 8000)), 9990, 10000},
		"the books do not matter":     {worldWith(skyOf(4, leaves(7, 9)), func(w *impl.LinkWorld) { w.Ground.Disk = manyHold(8) }), 7, 9},
		"words are not heard":         {worldWith(skyOf(4, leaves(7, 9)), func(w *impl.LinkWorld) { w.Radio = []impl.LinkWord{sayPath(2, "a", 2, endsBy(leaves(7, 9).Path, 8))} }), 7, 9},
		"not ok: now past FlyMaxTick": {skyOf(10001), never, never},
		"not ok: now below 0":         {skyOf(-1), never, never},
		"not ok: a book":              {worldWith(busy(), func(w *impl.LinkWorld) { w.Ground.Disk.Last = 1 }), never, never},
		"not ok: an aircraft":         {skyOf(9, leaves(7, 9)), never, never},
		"not ok: nine":                {fullSky(9), never, never},
		"eight":                       {fullSky(8), 8, 12},
	} {
		wantAlone(t, name, c.world, c.early, c.late)
	}
}

// Forty steps of eight aircraft, at nearly all ticks that there are.
func TestLinkAloneOfTheLongestFlights(t *testing.T) {
	var crafts []impl.LinkCraft
	for i := range 8 {
		p := zigzag(40)
		p.Kind.Slow = 50
		for k := range p.Steps {
			p.Steps[k].Y, p.Steps[k].Hold = 2*i, k%5 == 0
		}
		crafts = append(crafts, flier(string([]byte{byte('a' + i)}), i+1, p))
	}
	w := skyOf(0, crafts...)
	if tick, ok := impl.LinkAlone(w, true); tick != 41 || !ok {
		t.Errorf("early: %d %v", tick, ok)
	}
	if tick, ok := impl.LinkAlone(w, false); tick != 10000 || !ok {
		t.Errorf("late: %d %v", tick, ok)
	}
}

func TestLinkCalm(t *testing.T) {
	next := endsBy(lane(1, 5, 6), 11)
	worlds := map[string]impl.LinkWorld{
		"new": impl.LinkNew(), "nothing": {}, "busy": busy(), "busy, not up": busyDown(), "eight": fullSky(8),
		"words to be said":          withOut(busy(), reports(3)...),
		"the radio full":            withRadio(busy(), 39),
		"both full":                 withOut(withRadio(busy(), 39), reports(40)...),
		"many clearances":           onRadio(busy(), slices.Repeat([]impl.LinkWord{sayPath(2, "ant", 4, next)}, 40)...),
		"somebody filed":            withOut(busy(), sayPath(1, "cow", 9, lane(12, 9, 12))),
		"nobody hears":              worldWith(busy(), func(w *impl.LinkWorld) { w.Crafts = nil; w.Ground.Mind = manyHold(8) }),
		"near the last tick":        worldWith(impl.LinkNew(), func(w *impl.LinkWorld) { w.Now, w.Radio = 9998, reports(5) }),
		"the last tick":             worldWith(busy(), func(w *impl.LinkWorld) { w.Now, w.Crafts = 10000, nil }),
		"the last tick, Out":        worldWith(withOut(busy(), reports(30)...), func(w *impl.LinkWorld) { w.Now, w.Crafts = 10000, nil }),
		"the last tick, Mind alone": worldWith(busy(), func(w *impl.LinkWorld) { w.Now, w.Crafts, w.Ground.Disk = 10000, nil, impl.LinkBook{} }),
		"the last tick, Disk alone": worldWith(busy(), func(w *impl.LinkWorld) { w.Now, w.Crafts, w.Ground.Mind = 10000, nil, impl.LinkBook{} }),
		"somebody to the last tick": skyOf(9998, flier("a", 1, allTicks(), 0)),
		"not ok":                    worldWith(busy(), func(w *impl.LinkWorld) { w.Now = 7 }),
		"not ok, now below 0":       skyOf(-1),
		"not ok, not up":            {Now: 10001},
	}
	for name, w := range worlds {
		for _, rounds := range []int{math.MinInt, -1, 0, 1, 2, 3, 4, 5, 7, 12, 20} {
			got, want := impl.LinkCalm(w, rounds), plainCalm(w, rounds)
			if !sameWorld(got, want) {
				t.Errorf("%s, %d rounds:\n%+v, not\n%+v", name, rounds, got, want)
			}
			if plainWorldOk(w) && !impl.LinkWorldOk(got) {
				t.Errorf("%s, %d rounds: %+v is not ok", name, rounds, got)
			}
			if rounds <= 0 && plainWorldOk(w) && !sameWorld(got, w) {
				t.Errorf("%s, %d rounds: %+v", name, rounds, got)
			}
		}
	}
}

func TestLinkCalmRounds(t *testing.T) {
	for rounds, now := range map[int]int{
		math.MinInt: 0, -1000: 0, -1: 0, 0: 0, 1: 1, 2: 2, 999: 999, 1000: 1000, 1001: 1000, 10000: 1000, math.MaxInt: 1000,
	} {
		for name, w := range map[string]impl.LinkWorld{"new": impl.LinkNew(), "nothing": {}, "forty words": withRadio(impl.LinkNew(), 40)} {
			want := worldWith(w, func(w *impl.LinkWorld) { w.Now = now })
			if now > 0 {
				want.Radio = nil
			}
			if got := impl.LinkCalm(w, rounds); !sameWorld(got, want) {
				t.Errorf("%s, %d rounds: %+v", name, rounds, got)
			}
		}
	}
	busiest := withOut(withRadio(busy(), 39), reports(40)...)
	if a, b := impl.LinkCalm(busiest, 1000), impl.LinkCalm(busiest, 1001); !sameWorld(a, b) || a.Now != 1006 || len(a.Crafts) > 0 {
		t.Errorf("%+v and %+v", a, b)
	}
}

// ant takes what was sent, and the ground hears so two rounds later.
func TestLinkCalmRoundByRound(t *testing.T) {
	w := worldWith(busy(), func(w *impl.LinkWorld) { w.Radio = nil; w.Crafts[0].Flown = []int{6} })
	next := endsBy(lane(1, 5, 6), 11)
	again := sayPath(impl.LinkClear, "ant", 4, next)
	first := impl.LinkCalm(w, 1)
	if first.Now != 7 || !slices.EqualFunc(first.Ground.Out, []impl.LinkWord{again}, sameWord) || len(first.Radio) != 0 {
		t.Errorf("%+v", first)
	}
	second := impl.LinkCalm(w, 2)
	took := []impl.LinkWord{say(impl.LinkTook, "ant", 4)}
	if second.Now != 8 || second.Crafts[0].Number != 4 || !slices.EqualFunc(second.Radio, took, sameWord) || second.Ground.Mind.Held[0].Sent != 4 {
		t.Errorf("%+v", second)
	}
	if !slices.EqualFunc(second.Ground.Out, []impl.LinkWord{again}, sameWord) {
		t.Errorf("%+v", second.Ground.Out)
	}
	third := impl.LinkCalm(w, 3)
	if third.Ground.Mind.Held[0].Sent != 0 || third.Ground.Mind.Held[0].Number != 4 || third.Ground.Disk.Held[0].Sent != 4 {
		t.Errorf("%+v", third)
	}
	// What was on its way as the answer was heard is answered once more.
	if fourth := impl.LinkCalm(w, 4); fourth.Ground.Disk.Held[0].Number != 4 || len(fourth.Ground.Out) != 0 || len(fourth.Radio) != 0 {
		t.Errorf("%+v", fourth)
	}
}

// A calm round brings as many words as there are behind the tick, not those
// that come as answers to them.
func TestLinkCalmBringsWhatIsUnderWay(t *testing.T) {
	clear := sayPath(impl.LinkClear, "bee", 3, lane(6, 9, 12))
	w := onRadio(busy(), clear, clear, clear)
	got := impl.LinkCalm(w, 1)
	if len(got.Radio) != 3 || got.Radio[0].Kind != impl.LinkTook {
		t.Errorf("%+v", got.Radio)
	}
	if again := impl.LinkCalm(w, 2); len(again.Radio) != 1 || again.Radio[0].Name != "ant" {
		t.Errorf("%+v", again.Radio)
	}
}

// Promise 17: of a and then of b rounds is of a + b rounds.
func TestLinkCalmOfSums(t *testing.T) {
	w := withOut(withRadio(busy(), 39), reports(40)...)
	for _, a := range []int{0, 1, 2, 3, 7, 499, 999, 1000} {
		for _, b := range []int{0, 1, 4, 13, 501} {
			if a+b > 1000 {
				continue
			}
			if got, want := impl.LinkCalm(impl.LinkCalm(w, a), b), impl.LinkCalm(w, a+b); !sameWorld(got, want) {
				t.Errorf("%d and %d rounds: %+v, not %+v", a, b, got, want)
			}
		}
	}
}
