package impl

// flyBound bounds one tick of a flight. A step and the path's end keep their
// ticks in different places, and a flight should not have to tell them apart.
type flyBound interface {
	window() (int, int)
}

type flyEnd struct {
	from int
	by   int
}

// FlyLawful says whether a flight keeps to a path.
func FlyLawful(p FlyPath, flight []int) bool {
	// Windows come ahead of stays: only within them can the difference of two
	// ticks not wrap round.
	return FlyPathOk(p) && len(flight) == len(p.Steps)+1 &&
		keepsWindows(p, flight) && keepsStays(p, flight)
}

// FlyWhere is the step in which a flight is at a tick.
func FlyWhere(flight []int, tick int) (int, bool) {
	for behind := 1; behind < len(flight); behind++ {
		if flight[behind-1] <= tick && tick < flight[behind] {
			return behind - 1, true
		}
	}
	return 0, false
}

func keepsWindows(p FlyPath, flight []int) bool {
	for place, bound := range p.bounds() {
		from, by := bound.window()
		if flight[place] < from || by < flight[place] {
			return false
		}
	}
	return true
}

func keepsStays(p FlyPath, flight []int) bool {
	for place, s := range p.Steps {
		least, most := s.stay(p.Kind)
		ticks := flight[place+1] - flight[place]
		if ticks < least || most < ticks {
			return false
		}
	}
	return true
}

// bounds are those of each tick of a flight, in order.
func (p FlyPath) bounds() []flyBound {
	var all []flyBound
	for _, s := range p.Steps {
		all = append(all, s)
	}
	return append(all, flyEnd{from: p.From, by: p.By})
}

func (s FlyStep) window() (int, int) {
	return s.From, s.By
}

func (e flyEnd) window() (int, int) {
	return e.from, e.by
}

// stay is the least and the greatest number of ticks in a step.
func (s FlyStep) stay(k FlyKind) (int, int) {
	if s.Hold {
		// No two ticks of an ok path are further apart than this.
		return k.Quick, FlyMaxTick
	}
	return k.Quick, k.Slow
}
