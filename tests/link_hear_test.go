package tests

import (
	"math"
	"slices"
	"testing"

	"loop.example/laplink/impl"
)

// What somebody has behind a word: what they had, what was sent taken or
// dropped, or nothing.
const (
	keeps = iota
	takes
	drops
	goes
)

// wantHear holds LinkHear against what becomes of the one at a place. Promise
// 16: nobody else changes, and heard twice it is heard once.
func wantHear(t *testing.T, name string, b impl.LinkBook, w impl.LinkWord, place int, becomes int) {
	t.Helper()
	want := impl.LinkBook{Last: b.Last}
	for i, h := range b.Held {
		if i == place && becomes == takes {
			h.Number, h.Path = h.Sent, h.Next
		}
		if i == place && (becomes == takes || becomes == drops) {
			h.Sent, h.Next = 0, impl.FlyPath{}
		}
		if i != place || becomes != goes {
			want.Held = append(want.Held, h)
		}
	}
	got := impl.LinkHear(b, w)
	if !sameBook(got, want) {
		t.Errorf("%s: %v, not %v", name, got, want)
	}
	same := 0
	for _, h := range b.Held {
		same += count(h.Name == w.Name)
	}
	// Of two of one name the second is the first, when the first has gone.
	if again := impl.LinkHear(got, w); same < 2 && !sameBook(again, want) {
		t.Errorf("%s, heard twice: %v, not %v", name, again, want)
	}
}

// ant holds under 2 and was sent 4, bee holds under 3 and was sent nothing.
func TestLinkHear(t *testing.T) {
	const took, refused, report, landed = 3, 4, 5, 6
	for kind := -1; kind <= 8; kind++ {
		for _, number := range []int{math.MinInt, -4, -1, 0, 1, 2, 3, 4, 5, 9, 10, 1000000, 1000001, math.MaxInt} {
			ant, bee := keeps, keeps
			switch {
			case kind == landed && (number == 2 || number == 4):
				ant = goes
			case (kind == took || kind == report) && number == 4:
				ant = takes
			case kind == refused && number == 4:
				ant = drops
			}
			if kind == landed && number == 3 {
				bee = goes
			}
			for _, path := range []impl.FlyPath{{}, lane(8, 5, 6), noFlight(), zigzag(41)} {
				word := impl.LinkWord{Kind: kind, Name: "ant", Number: number, Path: path}
				wantHear(t, "ant", twoHold(), word, 0, ant)
				word.Name = "bee"
				wantHear(t, "bee", twoHold(), word, 1, bee)
				for _, nobody := range []string{"cat", "an", "ants", "", "Ant", "a\xff"} {
					word.Name = nobody
					wantHear(t, nobody, twoHold(), word, -1, keeps)
				}
				word.Name = "ant"
				wantHear(t, "nobody there", impl.LinkBook{}, word, -1, keeps)
			}
		}
	}
}

func TestLinkHearOfAnyBook(t *testing.T) {
	const filed, cleared, took, refused, report, landed = 1, 2, 3, 4, 5, 6
	p, q := lane(1, 5, 6), lane(2, 5, 6)
	say := func(kind int, name string, number int) impl.LinkWord {
		return impl.LinkWord{Kind: kind, Name: name, Number: number}
	}
	two := bookOf(9, awaits("a", 1, p, 3, q), awaits("a", 2, q, 4, p))
	apart := bookOf(9, holds("b", 5, p), awaits("a", 1, p, 3, q), holds("b", 6, q), awaits("a", 2, q, 4, p))
	for name, c := range map[string]struct {
		book    impl.LinkBook
		word    impl.LinkWord
		place   int
		becomes int
	}{
		"two of the name, the first's Sent":        {two, say(took, "a", 3), 0, takes},
		"two of the name, the second's Sent":       {two, say(took, "a", 4), 0, keeps},
		"two of the name, the first's refused":     {two, say(refused, "a", 3), 0, drops},
		"two of the name, the second's refused":    {two, say(refused, "a", 4), 0, keeps},
		"two of the name, a report of the first":   {two, say(report, "a", 3), 0, takes},
		"two of the name, a report of the second":  {two, say(report, "a", 4), 0, keeps},
		"two of the name, the first landed":        {two, say(landed, "a", 1), 0, goes},
		"two of the name, landed under Sent":       {two, say(landed, "a", 3), 0, goes},
		"two of the name, the second landed":       {two, say(landed, "a", 2), 0, keeps},
		"two of the name, the second under Sent":   {two, say(landed, "a", 4), 0, keeps},
		"not in a row, the first of the name":      {apart, say(took, "a", 3), 1, takes},
		"not in a row, the second of the name":     {apart, say(took, "a", 4), 1, keeps},
		"not in a row, the first landed":           {apart, say(landed, "a", 1), 1, goes},
		"not in a row, at the front":               {apart, say(landed, "b", 5), 0, goes},
		"not in a row, b the second":               {apart, say(landed, "b", 6), 0, keeps},
		"Sent 0, took 0":                           {bookOf(9, holds("a", 1, p)), say(took, "a", 0), 0, keeps},
		"Sent 0 with a Next, took 0":               {bookOf(9, awaits("a", 1, p, 0, q)), say(took, "a", 0), 0, keeps},
		"Sent 0 with a Next, a report of 0":        {bookOf(9, awaits("a", 1, p, 0, q)), say(report, "a", 0), 0, keeps},
		"Sent 0 with a Next, refused 0":            {bookOf(9, awaits("a", 1, p, 0, q)), say(refused, "a", 0), 0, keeps},
		"Sent 0 with a Next, landed 0":             {bookOf(9, awaits("a", 1, p, 0, q)), say(landed, "a", 0), 0, keeps},
		"Sent 0 with a Next, took its Number":      {bookOf(9, awaits("a", 1, p, 0, q)), say(took, "a", 1), 0, keeps},
		"Sent below 0, took it":                    {bookOf(9, awaits("a", 1, p, -3, q)), say(took, "a", -3), 0, keeps},
		"Sent below 0, a report of it":             {bookOf(9, awaits("a", 1, p, -3, q)), say(report, "a", -3), 0, keeps},
		"Sent below 0, refused it":                 {bookOf(9, awaits("a", 1, p, -3, q)), say(refused, "a", -3), 0, keeps},
		"Sent below 0, landed under it":            {bookOf(9, awaits("a", 1, p, -3, q)), say(landed, "a", -3), 0, keeps},
		"Sent at the least, took it":               {bookOf(9, awaits("a", 1, p, math.MinInt, q)), say(took, "a", math.MinInt), 0, keeps},
		"Sent at the greatest, took it":            {bookOf(9, awaits("a", 1, p, math.MaxInt, q)), say(took, "a", math.MaxInt), 0, takes},
		"Sent at the greatest, refused it":         {bookOf(9, awaits("a", 1, p, math.MaxInt, q)), say(refused, "a", math.MaxInt), 0, drops},
		"Sent at the greatest, landed":             {bookOf(9, awaits("a", 1, p, math.MaxInt, q)), say(landed, "a", math.MaxInt), 0, goes},
		"Sent with no Next, took it":               {bookOf(9, awaits("a", 1, p, 3, impl.FlyPath{})), say(took, "a", 3), 0, takes},
		"Sent with no Next, refused it":            {bookOf(9, awaits("a", 1, p, 3, impl.FlyPath{})), say(refused, "a", 3), 0, drops},
		"Sent below Number, took it":               {bookOf(9, awaits("a", 5, p, 3, q)), say(took, "a", 3), 0, takes},
		"Sent equal to Number, took it":            {bookOf(9, awaits("a", 3, p, 3, q)), say(took, "a", 3), 0, takes},
		"Sent equal to Number, refused it":         {bookOf(9, awaits("a", 3, p, 3, q)), say(refused, "a", 3), 0, drops},
		"Sent equal to Number, landed":             {bookOf(9, awaits("a", 3, p, 3, q)), say(landed, "a", 3), 0, goes},
		"Sent above Last, took it":                 {bookOf(0, awaits("a", 1, p, 3, q)), say(took, "a", 3), 0, takes},
		"Number 0, landed under 0":                 {bookOf(9, holds("a", 0, p)), say(landed, "a", 0), 0, goes},
		"Number below 0, landed under it":          {bookOf(9, holds("a", -3, p)), say(landed, "a", -3), 0, goes},
		"Number at the least, landed under it":     {bookOf(9, holds("a", math.MinInt, p)), say(landed, "a", math.MinInt), 0, goes},
		"Number at the greatest, landed under it":  {bookOf(9, holds("a", math.MaxInt, p)), say(landed, "a", math.MaxInt), 0, goes},
		"paths that are not ok, took":              {bookOf(9, awaits("a", 1, zigzag(41), 3, noFlight())), say(took, "a", 3), 0, takes},
		"paths that are not ok, landed":            {bookOf(9, awaits("a", 1, zigzag(41), 3, noFlight())), say(landed, "a", 1), 0, goes},
		"a name that is none, took":                {bookOf(9, awaits("K\xff", 1, p, 3, q)), say(took, "K\xff", 3), 0, takes},
		"no name, took":                            {bookOf(9, awaits("", 1, p, 3, q)), say(took, "", 3), 0, takes},
		"no name, landed":                          {bookOf(9, awaits("", 1, p, 3, q)), say(landed, "", 1), 0, goes},
		"out of order, the first":                  {bookOf(9, holds("z", 1, p), holds("a", 2, q)), say(landed, "z", 1), 0, goes},
		"out of order, the second":                 {bookOf(9, holds("z", 1, p), holds("a", 2, q)), say(landed, "a", 2), 1, goes},
		"Last at the least":                        {bookOf(math.MinInt, awaits("a", 1, p, 3, q)), say(took, "a", 3), 0, takes},
		"one of nine, in the middle":               {manyHold(9), say(landed, "e", 5), 4, goes},
		"one of nine, the last, took":              {manyHold(9), say(took, "i", 18), 8, takes},
		"a LinkFiled under Sent":                   {bookOf(9, awaits("a", 1, p, 3, q)), say(filed, "a", 3), 0, keeps},
		"a LinkClear under Sent":                   {bookOf(9, awaits("a", 1, p, 3, q)), say(cleared, "a", 3), 0, keeps},
		"a report under the old number":            {bookOf(9, awaits("a", 1, p, 3, q)), say(report, "a", 1), 0, keeps},
		"took under the old number":                {bookOf(9, awaits("a", 1, p, 3, q)), say(took, "a", 1), 0, keeps},
		"refused under the old number":             {bookOf(9, awaits("a", 1, p, 3, q)), say(refused, "a", 1), 0, keeps},
		"landed under the old number":              {bookOf(9, awaits("a", 1, p, 3, q)), say(landed, "a", 1), 0, goes},
		"landed under a number in between":         {bookOf(9, awaits("a", 1, p, 3, q)), say(landed, "a", 2), 0, keeps},
		"nothing, of nothing":                      {impl.LinkBook{}, impl.LinkWord{}, -1, keeps},
		"nothing, of one who has nothing":          {bookOf(0, impl.LinkHeld{}), impl.LinkWord{}, 0, keeps},
		"landed, of one who has nothing":           {bookOf(0, impl.LinkHeld{}), impl.LinkWord{Kind: landed}, 0, goes},
		"took, of one who has nothing":             {bookOf(0, impl.LinkHeld{}), impl.LinkWord{Kind: took}, 0, keeps},
		"kind at the least, under Sent":            {bookOf(9, awaits("a", 1, p, 3, q)), say(math.MinInt, "a", 3), 0, keeps},
		"kind at the greatest, under Sent":         {bookOf(9, awaits("a", 1, p, 3, q)), say(math.MaxInt, "a", 3), 0, keeps},
		"a kind whose last bits are those of took": {bookOf(9, awaits("a", 1, p, 3, q)), say(math.MinInt+took, "a", 3), 0, keeps},
	} {
		wantHear(t, name, c.book, c.word, c.place, c.becomes)
	}
}

// plainHear says LinkHear once more: of the first of the name, word by word.
func plainHear(b impl.LinkBook, w impl.LinkWord) impl.LinkBook {
	behind := impl.LinkBook{Last: b.Last}
	met := false
	for _, h := range b.Held {
		first := h.Name == w.Name && !met
		met = met || h.Name == w.Name
		sent := h.Sent > 0 && h.Sent == w.Number
		if first && w.Kind == 6 && (w.Number == h.Number || sent) {
			continue
		}
		if first && sent && (w.Kind == 3 || w.Kind == 5) {
			h = holds(h.Name, h.Sent, h.Next)
		}
		if first && sent && w.Kind == 4 {
			h = holds(h.Name, h.Number, h.Path)
		}
		behind.Held = append(behind.Held, h)
	}
	return behind
}

// Promise 16: LinkHear changes nothing but what holds of whom the word is;
// heard twice it is heard once; and what they may fly by the book behind it is
// some of what they might ahead of it.
func TestLinkHearOfManyBooks(t *testing.T) {
	counts := map[string]int{}
	someBooks(6000, 23, func(b impl.LinkBook, roll func(int) int) {
		ok := impl.LinkBookOk(b, 0)
		for range 12 {
			w := impl.LinkWord{Kind: roll(8), Name: []string{"a", "b", "c", "d", "e", "K", ""}[roll(7)], Number: roll(12) - 1}
			for _, h := range b.Held {
				if h.Name == w.Name {
					w.Number = []int{w.Number, h.Number, h.Sent, h.Sent}[roll(4)]
				}
			}
			got, want := impl.LinkHear(b, w), plainHear(b, w)
			if !sameBook(got, want) {
				t.Errorf("%v hears %v: %v, not %v", b, w, got, want)
			}
			if !sameOthers(b, got, w.Name) {
				t.Errorf("%v hears %v: %v", b, w, got)
			}
			if !ok {
				continue
			}
			if again := impl.LinkHear(got, w); !sameBook(again, got) {
				t.Errorf("%v hears %v twice: %v, not %v", b, w, again, got)
			}
			if !impl.LinkBookOk(got, 0) {
				t.Errorf("%v hears %v: %v is not ok", b, w, got)
			}
			counts["gone"] += count(len(got.Held) < len(b.Held))
			counts["changed"] += count(len(got.Held) == len(b.Held) && !sameBook(got, b))
			counts["as it was"] += count(sameBook(got, b))
		}
	})
	for what, size := range counts {
		if size < 500 {
			t.Errorf("%s: %d", what, size)
		}
	}
}

func TestLinkHearOfWildNumbers(t *testing.T) {
	for place := range bookNumbers(&impl.LinkBook{Held: make([]impl.LinkHeld, 2)}) {
		for _, n := range wild {
			for _, number := range append([]int{3, 4}, wild...) {
				for kind := range 8 {
					for _, name := range []string{"ant", "bee"} {
						b := twoHold()
						*bookNumbers(&b)[place] = n
						w := impl.LinkWord{Kind: kind, Name: name, Number: number}
						if got, want := impl.LinkHear(b, w), plainHear(b, w); !sameBook(got, want) {
							t.Errorf("%v hears %v: %v, not %v", b, w, got, want)
						}
					}
				}
			}
		}
	}
}

func TestLinkHearWritesAndKeepsNothing(t *testing.T) {
	for name, b := range map[string]impl.LinkBook{
		"two": twoHold(), "nobody": {}, "eight": manyHold(8), "nine": manyHold(9),
		"not ok": bookOf(1, awaits("ant", 2, noFlight(), 4, zigzag(41)), holds("ant", 3, noFlight())),
	} {
		for kind := range 8 {
			for _, of := range []string{"ant", "bee", "a", "d", "h", "z"} {
				for number := range 20 {
					wantOwnMemory(t, name, b, lane(8, 5, 6), func(b impl.LinkBook, p impl.FlyPath) (impl.LinkBook, impl.LinkWord) {
						w := impl.LinkWord{Kind: kind, Name: of, Number: number, Path: p}
						return impl.LinkHear(b, w), impl.LinkWord{}
					})
				}
			}
		}
	}
}

// The boxes of lane(row, 5, 6) end at 11, those of lane(row, 5, 8) at 13.
func TestLinkPast(t *testing.T) {
	short, long := lane(1, 5, 6), lane(2, 5, 8)
	none := impl.FlyPath{}
	// Its box ends at 9999, the last tick at which there is any.
	last := allTicks()
	for name, c := range map[string]struct {
		held  impl.LinkHeld
		stays int // the last now at which they stay
	}{
		"Path alone":                        {holds("a", 1, short), 10},
		"Path ahead of Next":                {awaits("a", 1, short, 2, long), 12},
		"Next ahead of Path":                {awaits("a", 1, long, 2, short), 12},
		"both the same":                     {awaits("a", 1, short, 2, short), 10},
		"Next alone":                        {awaits("a", 1, none, 2, short), 10},
		"Next alone, Sent 0":                {awaits("a", 1, none, 0, short), 10},
		"Next with Sent 0, later":           {awaits("a", 1, short, 0, long), 12},
		"Next with Sent below 0, later":     {awaits("a", 1, short, -1, long), 12},
		"Path with no flight, Next":         {awaits("a", 1, noFlight(), 2, short), 10},
		"Path, Next with no flight":         {awaits("a", 1, short, 2, noFlight()), 10},
		"Path, Next that is not ok":         {awaits("a", 1, short, 2, zigzag(41)), 10},
		"no Path":                           {holds("a", 1, none), math.MinInt},
		"Path with no flight":               {holds("a", 1, noFlight()), math.MinInt},
		"Path that is not ok":               {holds("a", 1, zigzag(41)), math.MinInt},
		"neither with a flight":             {awaits("a", 1, noFlight(), 2, noFlight()), math.MinInt},
		"nothing":                           {impl.LinkHeld{}, math.MinInt},
		"a name that is none":               {holds("Ant", 1, short), 10},
		"no name":                           {holds("", 1, short), 10},
		"a name too long":                   {holds("abc-01290", 1, short), 10},
		"a name that is no text":            {holds("a\xff", 1, short), 10},
		"a name that is none, Next later":   {awaits("Ant", 1, short, 2, long), 12},
		"numbers that are none":             {awaits("a", -5, short, -7, long), 12},
		"numbers at both ends":              {awaits("a", math.MaxInt, short, math.MinInt, long), 12},
		"to the last tick of all":           {holds("a", 1, last), 9998},
		"Next to the last tick of all":      {awaits("a", 1, short, 2, last), 9998},
		"three steps, one of them held in":  {holds("a", 1, threeSteps()), 61},
		"the end pulled back, not the step": {holds("a", 1, earlyEnd()), 28},
		"forty steps":                       {holds("a", 1, zigzag(40)), 9998},
	} {
		nows := append([]int{c.stays, 8, 9, 10, 11, 12, 13, 14, 28, 29, 30, 61, 62, 63, 9997, 9998}, wild...)
		if c.stays > math.MinInt {
			nows = append(nows, c.stays-1, c.stays+1)
		}
		for _, now := range nows {
			want := impl.LinkBook{Last: 7}
			if c.stays > math.MinInt && now <= c.stays {
				want.Held = []impl.LinkHeld{c.held}
			}
			if got := impl.LinkPast(bookOf(7, c.held), now); !sameBook(got, want) {
				t.Errorf("%s, now %d: %v", name, now, got)
			}
		}
	}
}

func TestLinkPastOfSeveral(t *testing.T) {
	early, mid, late := lane(1, 5, 6), lane(4, 15, 16), lane(7, 25, 26) // to 11, 21 and 31
	all := bookOf(9, holds("a", 1, late), holds("b", 2, early), awaits("c", 3, early, 4, mid), holds("d", 5, mid), holds("e", 6, early))
	odd := bookOf(-9, holds("b", 1, mid), holds("b", 2, early), holds("", 2, late), holds("b", 2, mid), impl.LinkHeld{})
	for name, c := range map[string]struct {
		book  impl.LinkBook
		now   int
		stays []int
	}{
		"ahead of all":               {all, 0, []int{0, 1, 2, 3, 4}},
		"ahead of the early ones":    {all, 10, []int{0, 1, 2, 3, 4}},
		"at their last tick":         {all, 11, []int{0, 2, 3}},
		"ahead of the middle ones":   {all, 20, []int{0, 2, 3}},
		"at their last tick, too":    {all, 21, []int{0}},
		"ahead of the late one":      {all, 30, []int{0}},
		"at its last tick":           {all, 31, nil},
		"FlyMaxTick":                 {all, 10000, nil},
		"past it":                    {all, 10001, nil},
		"at the greatest":            {all, math.MaxInt, nil},
		"below 0":                    {all, -1, []int{0, 1, 2, 3, 4}},
		"at the least":               {all, math.MinInt, []int{0, 1, 2, 3, 4}},
		"nobody":                     {impl.LinkBook{Last: 4}, 5, nil},
		"nothing":                    {impl.LinkBook{}, math.MaxInt, nil},
		"one name, out of order":     {odd, 11, []int{0, 2, 3}},
		"one name, out of order, 21": {odd, 21, []int{2}},
		"nine":                       {manyHold(9), 12, []int{8}},
	} {
		want := impl.LinkBook{Last: c.book.Last}
		for _, place := range c.stays {
			want.Held = append(want.Held, c.book.Held[place])
		}
		if got := impl.LinkPast(c.book, c.now); !sameBook(got, want) {
			t.Errorf("%s: %v, not %v", name, got, want)
		}
	}
}

// inAir says whether on one of these flights somebody is in a step at a tick
// behind now.
func inAir(flights [][]int, now int) bool {
	return slices.ContainsFunc(flights, func(flight []int) bool {
		for tick := max(now+1, flight[0]); tick < flight[len(flight)-1]; tick++ {
			if _, ok := plainWhere(flight, tick); ok {
				return true
			}
		}
		return false
	})
}

// Promise 16: LinkPast takes out nobody who may still be in the air, and all
// others.
func TestLinkPastLeavesThoseInTheAir(t *testing.T) {
	stay, leave := 0, 0
	var ahead impl.FlyPath
	var flightsAhead [][]int
	fewPaths(17, func(p impl.FlyPath) {
		flights := plainFlights(p, nil)
		for now := -1; now <= 12; now++ {
			for name, c := range map[string]struct {
				held impl.LinkHeld
				up   bool
			}{
				"held":          {holds("a", 1, p), inAir(flights, now)},
				"sent":          {awaits("a", 1, noFlight(), 2, p), inAir(flights, now)},
				"held and sent": {awaits("a", 1, p, 2, ahead), inAir(flights, now) || inAir(flightsAhead, now)},
			} {
				got := impl.LinkPast(bookOf(2, c.held), now)
				if (len(got.Held) == 1) != c.up {
					t.Errorf("%s %v, now %d: %v", name, c.held, now, got)
				}
				stay, leave = stay+count(c.up), leave+count(!c.up)
			}
		}
		ahead, flightsAhead = p, flights
	})
	if min(stay, leave) < 1000 {
		t.Errorf("stay: %d, leave: %d", stay, leave)
	}
}

func TestLinkPastOfManyBooks(t *testing.T) {
	some, all := 0, 0
	someBooks(3000, 29, func(b impl.LinkBook, roll func(int) int) {
		for _, now := range []int{roll(30), wild[roll(len(wild))]} {
			want := impl.LinkBook{Last: b.Last}
			for _, h := range b.Held {
				boxes := append(impl.FlyTube(h.Path), impl.FlyTube(h.Next)...)
				if slices.ContainsFunc(boxes, func(box impl.FlyBox) bool { return box.Out > now }) {
					want.Held = append(want.Held, h)
				}
			}
			got := impl.LinkPast(b, now)
			if !sameBook(got, want) {
				t.Errorf("%v, now %d: %v, not %v", b, now, got, want)
			}
			if within(0, now, 9999) && impl.LinkBookOk(b, now) && !impl.LinkBookOk(got, now+1) {
				t.Errorf("%v, now %d: %v is not ok", b, now, got)
			}
			some += count(len(got.Held) > 0 && len(got.Held) < len(b.Held))
			all += count(len(got.Held) == len(b.Held))
		}
	})
	if min(some, all) < 200 {
		t.Errorf("some: %d, all: %d", some, all)
	}
}

func TestLinkPastOfWildNumbers(t *testing.T) {
	for place := range bookNumbers(&impl.LinkBook{Held: make([]impl.LinkHeld, 2)}) {
		for _, n := range wild {
			for _, now := range append([]int{11, 12, 13}, wild...) {
				b := twoHold()
				*bookNumbers(&b)[place] = n
				want := impl.LinkBook{Last: b.Last}
				// ant may fly up to 13, bee up to 11, whatever their numbers are.
				if now < 13 {
					want.Held = append(want.Held, b.Held[0])
				}
				if now < 11 {
					want.Held = append(want.Held, b.Held[1])
				}
				if got := impl.LinkPast(b, now); !sameBook(got, want) {
					t.Errorf("%v, now %d: %v", b, now, got)
				}
			}
		}
	}
	for name, at := range pathNumbers() {
		for _, n := range wild {
			for _, now := range append([]int{11, 12, 13}, wild...) {
				b := twoHold()
				*at(&b.Held[1].Path) = n
				boxes := impl.FlyTube(b.Held[1].Path)
				up := slices.ContainsFunc(boxes, func(box impl.FlyBox) bool { return box.Out > now })
				got := impl.LinkPast(b, now)
				if slices.ContainsFunc(got.Held, func(h impl.LinkHeld) bool { return h.Name == "bee" }) != up {
					t.Errorf("%s is %d, now %d: %v", name, n, now, got)
				}
			}
		}
	}
}

func TestLinkPastWritesAndKeepsNothing(t *testing.T) {
	for name, b := range map[string]impl.LinkBook{
		"two": twoHold(), "nobody": {}, "eight": manyHold(8), "nine": manyHold(9),
		"not ok": bookOf(1, awaits("ant", 2, noFlight(), 4, zigzag(41)), holds("ant", 3, lane(1, 5, 6))),
	} {
		for _, now := range []int{math.MinInt, 0, 11, 12, 13, 10000, math.MaxInt} {
			wantOwnMemory(t, name, b, impl.FlyPath{}, func(b impl.LinkBook, p impl.FlyPath) (impl.LinkBook, impl.LinkWord) {
				return impl.LinkPast(b, now), impl.LinkWord{}
			})
		}
	}
}
