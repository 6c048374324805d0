package tests

import (
	"slices"
	"testing"

	"loop.example/laplink/impl"
)

// wantPromises asks promises 10, 11, 12 and 17 of a world that LinkSteps have
// led to.
func wantPromises(t *testing.T, name string, w impl.LinkWorld, roll func(int) int) {
	t.Helper()
	if !impl.LinkWorldOk(w) || !impl.LinkKept(w) || !impl.LinkApart(w) {
		t.Fatalf("%s: ok: %v, kept: %v, apart: %v: %+v", name, impl.LinkWorldOk(w), impl.LinkKept(w), impl.LinkApart(w), w)
	}
	latest := w.Now
	for _, c := range w.Crafts {
		latest = max(latest, c.Path.By)
	}
	for _, early := range []bool{true, false} {
		if tick, ok := impl.LinkAlone(w, early); !ok || tick < w.Now || latest < tick {
			t.Fatalf("%s: alone, early is %v: %d %v: %+v", name, early, tick, ok, w)
		}
	}
	if tick, ok := silence(w, roll); !ok || latest < tick {
		t.Fatalf("%s: in between: %d %v: %+v", name, tick, ok, w)
	}
	wantAnswered(t, name, w)
}

// wantAnswered asks what promise 17 says of four calm rounds.
func wantAnswered(t *testing.T, name string, w impl.LinkWorld) {
	t.Helper()
	calm := impl.LinkCalm(w, 4)
	if !impl.LinkWorldOk(calm) || !impl.LinkKept(calm) || !impl.LinkApart(calm) {
		t.Fatalf("%s: behind four rounds: %+v", name, calm)
	}
	for _, h := range calm.Ground.Mind.Held {
		if h.Sent > 0 && plainCraftAt(calm, h.Name) >= 0 {
			t.Fatalf("%s: %s has not answered: %+v", name, h.Name, calm)
		}
	}
}

// silence lets all fly on while nobody hears anything, each at ticks that are
// drawn; it tells when all are down, and false, if two come too near.
func silence(w impl.LinkWorld, roll func(int) int) (int, bool) {
	crafts, tick := slices.Clone(w.Crafts), w.Now
	for len(crafts) > 0 && plainApart(crafts, tick) && tick < 10000 {
		tick++
		var up []impl.LinkCraft
		for _, c := range crafts {
			if impl.LinkMust(c, tick) || roll(3) == 0 {
				c, _ = impl.LinkMove(c, tick)
			}
			if len(c.Flown) <= len(c.Path.Steps) {
				up = append(up, c)
			}
		}
		crafts = up
	}
	return tick, len(crafts) == 0
}

// row is a row of events from a new world, with all promises asked behind each.
type row struct {
	t     *testing.T
	world impl.LinkWorld
	roll  func(int) int
}

func newRow(t *testing.T) *row {
	return &row{t: t, world: impl.LinkNew(), roll: rolls(7)}
}

func (r *row) step(name string, events ...impl.LinkEvent) {
	r.t.Helper()
	for _, e := range events {
		next := impl.LinkStep(r.world, e)
		if want := plainStep(r.world, e); !sameWorld(next, want) {
			r.t.Fatalf("%s: %+v, not %+v", name, next, want)
		}
		r.world = next
		wantPromises(r.t, name, next, r.roll)
	}
}

// want asks for what somebody has in Mind, and what was sent to them.
func (r *row) want(name string, who string, number int, sent int) {
	r.t.Helper()
	for _, h := range r.world.Ground.Mind.Held {
		if h.Name == who {
			if h.Number != number || h.Sent != sent {
				r.t.Errorf("%s: %s holds %d, was sent %d", name, who, h.Number, h.Sent)
			}
			return
		}
	}
	if number != 0 {
		r.t.Errorf("%s: %s holds nothing", name, who)
	}
}

// flies asks for the number under which somebody flies; 0: they do not.
func (r *row) flies(name string, who string, number int) {
	r.t.Helper()
	got := 0
	if place := plainCraftAt(r.world, who); place >= 0 {
		got = r.world.Crafts[place].Number
	}
	if got != number {
		r.t.Errorf("%s: %s flies under %d, not %d", name, who, got, number)
	}
}

func (r *row) words(name string, radio int, out int) {
	r.t.Helper()
	if len(r.world.Radio) != radio || len(r.world.Ground.Out) != out {
		r.t.Errorf("%s: %d words under way, %d to be said", name, len(r.world.Radio), len(r.world.Ground.Out))
	}
}

var (
	ticks = asked(impl.LinkTicks, 0)
	falls = asked(impl.LinkFalls, 0)
	rises = asked(impl.LinkRises, 0)
	bring = asked(impl.LinkBrings, 0)
	loses = asked(impl.LinkLoses, 0)
)

// What was not written was not said, and its number is given once more; what
// was written is known behind a fall.
func TestRowOfFallsBetweenSentAndWritten(t *testing.T) {
	r := newRow(t)
	p, short := lane(1, 9, 12), endsBy(lane(1, 9, 12), 16)
	r.step("filed", byHand(impl.LinkFiles, "k", p))
	r.step("a fall ahead of the writing", falls, rises)
	r.want("forgotten", "k", 0, 0)
	r.step("a tick", ticks)
	r.flies("forgotten", "k", 0)
	r.step("filed again", byHand(impl.LinkFiles, "k", p), ticks)
	r.flies("written", "k", 1)
	r.step("sent", byHand(impl.LinkSends, "k", short))
	r.want("sent", "k", 1, 2)
	r.step("a fall ahead of the writing", falls, ticks, rises)
	r.want("not known", "k", 1, 0)
	r.words("not said", 0, 0)
	r.step("something else is sent", byHand(impl.LinkSends, "k", endsBy(p, 15)))
	r.want("under the same number", "k", 1, 2)
	r.step("written", ticks)
	r.words("said", 1, 0)
	r.step("a fall behind the writing", falls)
	r.step("it is taken, and the answer is not heard", bring, bring)
	r.flies("taken", "k", 2)
	r.step("it rises", rises)
	r.want("known", "k", 1, 2)
	r.step("once more", byHand(impl.LinkRepeats, "k", impl.FlyPath{}), ticks, bring, bring)
	r.want("heard", "k", 2, 0)
	r.step("a fall ahead of the writing", falls, rises)
	r.want("heard, and not written", "k", 1, 2)
	r.step("it tells", asked(impl.LinkTells, 0), bring)
	r.want("told", "k", 2, 0)
	r.step("a fall behind the writing", ticks, falls, rises)
	r.want("told, and written", "k", 2, 0)
}

// A clearance that is late comes to one who flies under a greater number.
func TestRowOfALateClearance(t *testing.T) {
	r := newRow(t)
	r.step("filed", byHand(impl.LinkFiles, "k", lane(1, 2, 4)), ticks)
	r.step("sent, said and doubled", byHand(impl.LinkSends, "k", endsBy(lane(1, 2, 4), 8)), ticks, asked(impl.LinkDoubles, 0), asked(impl.LinkDoubles, 0))
	r.step("taken and heard", bring, asked(impl.LinkBrings, 2), ticks)
	r.want("taken", "k", 2, 0)
	for range 3 {
		r.step("it flies", asked(impl.LinkMoves, 0), ticks)
	}
	r.step("it lands", asked(impl.LinkMoves, 0))
	r.flies("landed", "k", 0)
	r.words("landed", 3, 0)
	r.step("nobody hears the late one", bring)
	r.step("filed ahead of what it holds being gone", byHand(impl.LinkFiles, "k", lane(1, 12, 14)))
	r.want("not filed", "k", 2, 0)
	r.step("heard that it landed", asked(impl.LinkBrings, 1), byHand(impl.LinkFiles, "k", lane(1, 12, 14)))
	r.want("filed", "k", 3, 0)
	r.step("it comes in", ticks)
	r.flies("under a greater number", "k", 3)
	r.step("the late one", bring)
	r.flies("it does not hear it", "k", 3)
	r.words("and does not answer", 0, 0)
}

// Until it is heard that it was refused, what was sent is kept free; what was
// refused is never taken, so somebody else can have it then.
func TestRowOfARefusal(t *testing.T) {
	r := newRow(t)
	mine, other := lane(1, 2, 4), lane(6, 9, 12)
	r.step("filed", byHand(impl.LinkFiles, "k", mine), ticks, ticks, asked(impl.LinkMoves, 0))
	r.step("sent", byHand(impl.LinkSends, "k", other), ticks, asked(impl.LinkDoubles, 0))
	r.step("what was sent is asked for", byHand(impl.LinkFiles, "l", other))
	r.want("not free", "l", 0, 0)
	r.step("refused", bring)
	r.flies("refused", "k", 1)
	r.step("what was sent is asked for", byHand(impl.LinkFiles, "l", other))
	r.want("not free, as it was not heard", "l", 0, 0)
	r.step("heard", asked(impl.LinkBrings, 1), byHand(impl.LinkFiles, "l", other))
	r.want("free", "l", 3, 0)
	r.step("written, and the late one comes", ticks, bring)
	r.flies("refused once more", "k", 1)
	r.flies("somebody else", "l", 3)
}

// It took what was sent, the answer is lost: both are kept free.
func TestRowOfALostAnswer(t *testing.T) {
	r := newRow(t)
	first, second := lane(1, 12, 14), lane(6, 12, 14)
	r.step("filed", byHand(impl.LinkFiles, "k", first), ticks)
	r.step("sent", byHand(impl.LinkSends, "k", second), ticks, bring, loses)
	r.flies("taken", "k", 2)
	r.words("lost", 0, 0)
	r.step("both are asked for", byHand(impl.LinkFiles, "l", first), byHand(impl.LinkFiles, "m", second))
	r.want("not free", "l", 0, 0)
	r.want("not free", "m", 0, 0)
	r.step("a fall", falls, ticks, rises)
	r.step("both are asked for", byHand(impl.LinkFiles, "l", first), byHand(impl.LinkFiles, "m", second))
	r.want("not free", "l", 0, 0)
	r.step("once more, and heard", byHand(impl.LinkRepeats, "k", impl.FlyPath{}), ticks, bring, bring)
	r.want("heard", "k", 2, 0)
	r.step("the first is free", byHand(impl.LinkFiles, "l", first), byHand(impl.LinkFiles, "m", second))
	r.want("free", "l", 3, 0)
	r.want("not free", "m", 0, 0)
	r.step("a fall ahead of the writing", falls, rises)
	r.want("all is as it was", "k", 1, 2)
	r.want("all is as it was", "l", 0, 0)
	r.step("heard again, filed again", byHand(impl.LinkRepeats, "k", impl.FlyPath{}), ticks, bring, bring, byHand(impl.LinkFiles, "l", first), ticks)
	r.flies("both", "k", 2)
	r.flies("both", "l", 3)
}

// The ground never comes back: all land; when it does, all that is past goes.
func TestRowOfSilence(t *testing.T) {
	r := newRow(t)
	for i := range 8 {
		r.step("filed", byHand(impl.LinkFiles, string([]byte{byte('a' + i)}), lane(2*i, 2+i, 4+i)))
	}
	r.step("a ninth", byHand(impl.LinkFiles, "z", lane(1, 50, 52)))
	r.want("no room", "z", 0, 0)
	r.step("all come in", ticks, falls)
	if len(r.world.Crafts) != 8 {
		t.Errorf("%d fly", len(r.world.Crafts))
	}
	for range 16 {
		r.step("silence", ticks)
	}
	if len(r.world.Crafts) != 0 || len(r.world.Radio) != 8 || len(r.world.Ground.Disk.Held) != 8 {
		t.Errorf("%+v", r.world)
	}
	r.step("it rises", rises)
	r.want("known still", "a", 1, 0)
	r.step("a tick", ticks)
	if len(r.world.Ground.Disk.Held) != 0 || r.world.Ground.Disk.Last != 8 {
		t.Errorf("%+v", r.world.Ground)
	}
}

// As many words as there can be, under way and to be said: behind four rounds
// all is answered.
func TestRowOfAFullRadio(t *testing.T) {
	r := newRow(t)
	name := func(i int) string { return string([]byte{byte('a' + i%8)}) }
	for i := range 8 {
		r.step("filed", byHand(impl.LinkFiles, name(i), lane(2*i, 20, 40)))
	}
	r.step("all come in", ticks)
	for i := range 8 {
		r.step("sent", byHand(impl.LinkSends, name(i), lane(2*i, 20, 40-i%3)))
	}
	r.step("said", ticks)
	for i := range 33 {
		r.step("doubled", asked(impl.LinkDoubles, (5*i)%len(r.world.Radio)), byHand(impl.LinkRepeats, name(3*i), impl.FlyPath{}))
	}
	for i := range 8 {
		r.step("repeated", byHand(impl.LinkRepeats, name(i), impl.FlyPath{}))
	}
	r.words("full", 40, 40)
	r.step("answers are heard behind the others", bring, bring, bring)
	r.words("full still", 40, 40)
	r.step("what was to be said is lost", ticks)
	r.words("there was no room for it", 40, 0)
	for range 40 {
		r.step("brought", bring)
	}
}

// somePath is a path of those few rows that are drawn; some begin ahead of now.
func somePath(roll func(int) int, now int) impl.FlyPath {
	from := max(0, now+roll(9)-2)
	by := from + roll(5)
	p := lane(roll(10), from, by)
	if roll(3) == 0 {
		p = backLane(roll(10), from, by)
	}
	for i, right := 0, 3*roll(2); i < 3; i++ {
		p.Steps[i].X += right
	}
	if roll(4) == 0 {
		p = onLevels(p, roll(3), 2+roll(3))
	}
	if roll(4) == 0 {
		p.Steps[roll(3)].Hold = true
	}
	if roll(6) == 0 {
		p.Kind.Slow = 4
	}
	return p
}

// otherPath is another path for one that holds a path, as a rule one that
// shares its first steps.
func otherPath(roll func(int) int, p impl.FlyPath, now int) impl.FlyPath {
	last := len(p.Steps) - 1
	switch roll(6) {
	case 0:
		return somePath(roll, now)
	case 1:
		return endsBy(p, max(0, p.By-roll(24)))
	case 2:
		return withStep(p, last, func(s *impl.FlyStep) { s.Y = min(15, max(0, s.Y+roll(3)-1)) })
	case 3:
		return withStep(p, roll(last+1), func(s *impl.FlyStep) { s.Hold = !s.Hold })
	case 4:
		return withStep(p, last, func(s *impl.FlyStep) { s.By = min(s.By, now+2+roll(4)) })
	}
	return withStep(p, roll(last+1), func(s *impl.FlyStep) { s.High = 1 + roll(4) })
}

// someEvent is an event that, as a rule, lets something happen.
func someEvent(roll func(int) int, w impl.LinkWorld) impl.LinkEvent {
	name := string([]byte{byte('a' + roll(9))})
	place := func(size int) int { return roll(size+2) - 1 }
	held := w.Ground.Mind.Held
	switch n := roll(100); {
	case n < 14:
		return ticks
	case n < 26:
		return asked(impl.LinkMoves, place(len(w.Crafts)))
	case n < 48:
		return asked(impl.LinkBrings, place(len(w.Radio)))
	case n < 53:
		return asked(impl.LinkDoubles, place(len(w.Radio)))
	case n < 57:
		return asked(impl.LinkLoses, place(len(w.Radio)))
	case n < 75:
		return byHand(impl.LinkFiles, name, somePath(roll, w.Now))
	case n < 86 && len(held) > 0:
		h := held[roll(len(held))]
		return byHand(impl.LinkSends, h.Name, otherPath(roll, h.Path, w.Now))
	case n < 91:
		return byHand(impl.LinkRepeats, name, impl.FlyPath{})
	case n < 94:
		return asked(impl.LinkTells, place(len(w.Crafts)))
	case n < 96:
		return falls
	}
	return rises
}

// Promises 10, 11, 12 and 17, behind each event of rows that are drawn.
func TestRowsThatAreDrawn(t *testing.T) {
	seen := map[string]int{}
	for seed := range uint32(150) {
		roll := rolls(seed*977 + 5)
		w := impl.LinkNew()
		for range 130 {
			e := someEvent(roll, w)
			next := impl.LinkStep(w, e)
			if want := plainStep(w, e); !sameWorld(next, want) {
				t.Fatalf("%+v, %+v: %+v, not %+v", w, e, next, want)
			}
			wantPromises(t, "drawn", next, roll)
			countSeen(seen, w, next)
			w = next
		}
	}
	for what, least := range map[string]int{
		"two in the air": 3000, "five fly": 300, "took": 150, "refused": 60, "landed": 200, "filed": 400, "fallen": 150,
		"mind is not the disk": 5000, "number is not the mind's": 1000, "the disk has it as sent": 1000,
	} {
		if seen[what] < least {
			t.Errorf("%s: %d", what, seen[what])
		}
	}
}

// countSeen counts what came of an event, so that rows in which little happens
// are not taken for a proof.
func countSeen(seen map[string]int, w impl.LinkWorld, next impl.LinkWorld) {
	air := 0
	for _, c := range next.Crafts {
		air += count(len(c.Flown) > 0)
		was := plainCraftAt(w, c.Name)
		seen["filed"] += count(was < 0)
		if was >= 0 {
			seen["took"] += count(w.Crafts[was].Number != c.Number)
			seen["refused"] += count(w.Crafts[was].No != c.No)
		}
		for _, h := range next.Ground.Mind.Held {
			seen["number is not the mind's"] += count(h.Name == c.Name && h.Number != c.Number)
		}
		for _, h := range next.Ground.Disk.Held {
			seen["the disk has it as sent"] += count(h.Name == c.Name && h.Sent == c.Number && len(c.Flown) > 0)
		}
	}
	seen["two in the air"] += count(air >= 2)
	seen["five fly"] += count(len(next.Crafts) >= 5)
	seen["landed"] += count(len(next.Crafts) < len(w.Crafts))
	seen["fallen"] += count(w.Ground.Up && !next.Ground.Up)
	seen["mind is not the disk"] += count(!sameBook(next.Ground.Mind, next.Ground.Disk))
}
