package tests

import (
	"math"
	"reflect"
	"slices"
	"testing"

	"loop.example/laplink/impl"
)

// plainLinkTube is the boxes of FlyTube from a tick on, under a name.
func plainLinkTube(name string, p impl.FlyPath, now int) impl.ProbeTube {
	if !plainName(name) {
		return impl.ProbeTube{}
	}
	tube := impl.ProbeTube{Name: name}
	for _, b := range impl.FlyTube(p) {
		if b.Out >= now {
			tube.Boxes = append(tube.Boxes, impl.ProbeBox{X: b.X, Y: b.Y, Low: b.Low, High: b.High, In: max(b.In, now), Out: b.Out})
		}
	}
	return tube
}

func TestLinkTube(t *testing.T) {
	// The boxes of threeSteps are at 10 to 24, 13 to 59 and 16 to 62.
	first := func(in int) impl.ProbeBox { return impl.ProbeBox{X: 4, Y: 4, Low: 1, High: 2, In: in, Out: 24} }
	second := func(in int) impl.ProbeBox { return impl.ProbeBox{X: 5, Y: 4, Low: 2, High: 3, In: in, Out: 59} }
	third := func(in int) impl.ProbeBox { return impl.ProbeBox{X: 5, Y: 5, Low: 3, High: 4, In: in, Out: 62} }
	whole := tubeOf("kite", first(10), second(13), third(16))
	nothing := impl.ProbeTube{}
	for name, c := range map[string]struct {
		name string
		path impl.FlyPath
		now  int
		tube impl.ProbeTube
	}{
		"from 0":                           {"kite", threeSteps(), 0, whole},
		"from below 0":                     {"kite", threeSteps(), -1, whole},
		"one ahead of the first tick":      {"kite", threeSteps(), 9, whole},
		"at the first tick":                {"kite", threeSteps(), 10, whole},
		"one behind it":                    {"kite", threeSteps(), 11, tubeOf("kite", first(11), second(13), third(16))},
		"within all three":                 {"kite", threeSteps(), 20, tubeOf("kite", first(20), second(20), third(20))},
		"at the last tick of the first":    {"kite", threeSteps(), 24, tubeOf("kite", first(24), second(24), third(24))},
		"one behind that":                  {"kite", threeSteps(), 25, tubeOf("kite", second(25), third(25))},
		"behind the second":                {"kite", threeSteps(), 60, tubeOf("kite", third(60))},
		"at the last tick":                 {"kite", threeSteps(), 62, tubeOf("kite", third(62))},
		"one behind the last tick":         {"kite", threeSteps(), 63, tubeOf("kite")},
		"long behind":                      {"kite", threeSteps(), 10001, tubeOf("kite")},
		"another name":                     {"abc-0129", threeSteps(), 62, tubeOf("abc-0129", third(62))},
		"no name":                          {"", threeSteps(), 0, nothing},
		"a name too long":                  {"abc-01290", threeSteps(), 0, nothing},
		"a name that is none":              {"Kite", threeSteps(), 0, nothing},
		"a name that is no text":           {"k\xff", threeSteps(), 0, nothing},
		"no flight":                        {"kite", noFlight(), 0, tubeOf("kite")},
		"no flight, no name":               {"", noFlight(), 0, nothing},
		"no path":                          {"kite", impl.FlyPath{}, 0, tubeOf("kite")},
		"not ok":                           {"kite", changed(func(p *impl.FlyPath) { p.By = 10001 }), 0, tubeOf("kite")},
		"41 steps":                         {"kite", zigzag(41), 0, tubeOf("kite")},
		"all ticks":                        {"kite", allTicks(), 0, tubeOf("kite", impl.ProbeBox{X: 7, Y: 8, Low: 2, High: 4, Out: 9999})},
		"all ticks, from the last but one": {"kite", allTicks(), 9999, tubeOf("kite", impl.ProbeBox{X: 7, Y: 8, Low: 2, High: 4, In: 9999, Out: 9999})},
		"all ticks, from the last":         {"kite", allTicks(), 10000, tubeOf("kite")},
	} {
		if got := impl.LinkTube(c.name, c.path, c.now); !sameTube(got, c.tube) {
			t.Errorf("%s: %v, not %v", name, got, c.tube)
		}
	}
	if got := impl.LinkTube("kite", zigzag(40), 0); len(got.Boxes) != 40 || !impl.ProbeTubeOk(got) {
		t.Errorf("forty steps: %v", got)
	}
}

func TestLinkTubeOfManyPaths(t *testing.T) {
	fewPaths(31, func(p impl.FlyPath) {
		for now := -1; now <= 12; now++ {
			got, want := impl.LinkTube("a", p, now), plainLinkTube("a", p, now)
			if !sameTube(got, want) || !impl.ProbeTubeOk(got) {
				t.Errorf("%v from %d: %v, not %v", p, now, got, want)
			}
		}
	})
}

func TestLinkTubeOfWildNumbers(t *testing.T) {
	for _, now := range wild {
		if got, want := impl.LinkTube("kite", threeSteps(), now), plainLinkTube("kite", threeSteps(), now); !sameTube(got, want) {
			t.Errorf("from %d: %v, not %v", now, got, want)
		}
		for place, at := range pathNumbers() {
			for _, n := range wild {
				p := threeSteps()
				*at(&p) = n
				got, want := impl.LinkTube("kite", p, now), plainLinkTube("kite", p, now)
				if !sameTube(got, want) || !anyFlight(p) && len(got.Boxes) > 0 {
					t.Errorf("%s is %d, from %d: %v, not %v", place, n, now, got, want)
				}
			}
		}
	}
}

func TestLinkTubeWritesAndKeepsNothing(t *testing.T) {
	room := append(threeSteps().Steps, impl.FlyStep{X: 9}, impl.FlyStep{X: 8})
	kept := slices.Clone(room)
	p := threeSteps()
	p.Steps = room[:3]
	for _, now := range []int{0, 30, 63} {
		got := impl.LinkTube("kite", p, now)
		for i := range got.Boxes[:cap(got.Boxes)] {
			got.Boxes[:cap(got.Boxes)][i] = impl.ProbeBox{X: -1}
		}
		if again := impl.LinkTube("kite", p, now); !sameTube(again, plainLinkTube("kite", threeSteps(), now)) {
			t.Errorf("from %d, behind a change: %v", now, again)
		}
		if !reflect.DeepEqual(room, kept) {
			t.Errorf("from %d: steps are %v", now, room)
		}
	}
}

func TestLinkMaxHeld(t *testing.T) {
	if impl.LinkMaxHeld != 8 {
		t.Errorf("%d", impl.LinkMaxHeld)
	}
}

func TestLinkBookOk(t *testing.T) {
	least, most := math.MinInt, math.MaxInt
	free := lane(10, 5, 6)
	for name, c := range map[string]struct {
		book impl.LinkBook
		now  int
		ok   bool
	}{
		"two":                                {twoHold(), 5, true},
		"nobody":                             {impl.LinkBook{}, 0, true},
		"nobody, an empty list":              {impl.LinkBook{Held: []impl.LinkHeld{}}, 0, true},
		"one":                                {bookOf(1, holds("a", 1, lane(1, 5, 6))), 0, true},
		"seven":                              {manyHold(7), 0, true},
		"LinkMaxHeld":                        {manyHold(8), 0, true},
		"one more":                           {manyHold(9), 0, false},
		"many more":                          {manyHold(26), 0, false},
		"now 0":                              {twoHold(), 0, true},
		"now below 0":                        {twoHold(), -1, false},
		"now FlyMaxTick":                     {twoHold(), 10000, true},
		"now one past it":                    {twoHold(), 10001, false},
		"now at the least":                   {twoHold(), least, false},
		"now at the greatest":                {twoHold(), most, false},
		"nobody, now below 0":                {impl.LinkBook{}, -1, false},
		"nobody, now FlyMaxTick":             {impl.LinkBook{}, 10000, true},
		"nobody, now one past it":            {impl.LinkBook{}, 10001, false},
		"nobody, Last below 0":               {bookOf(-1), 0, false},
		"nobody, Last 1":                     {bookOf(1), 0, true},
		"nobody, Last LinkMaxNumber":         {bookOf(1000000), 0, true},
		"nobody, Last one past it":           {bookOf(1000001), 0, false},
		"nobody, Last at the least":          {bookOf(least), 0, false},
		"nobody, Last at the greatest":       {bookOf(most), 0, false},
		"Last LinkMaxNumber":                 {otherBook(func(b *impl.LinkBook) { b.Last = 1000000 }), 5, true},
		"Last one past it":                   {otherBook(func(b *impl.LinkBook) { b.Last = 1000001 }), 5, false},
		"Last the greatest given":            {otherBook(func(b *impl.LinkBook) { b.Last = 4 }), 5, true},
		"Sent above Last":                    {otherBook(func(b *impl.LinkBook) { b.Last = 3 }), 5, false},
		"Number above Last":                  {bookOf(2, holds("a", 3, free)), 5, false},
		"Number equal to Last":               {bookOf(3, holds("a", 3, free)), 5, true},
		"Last 0":                             {bookOf(0, holds("a", 1, free)), 5, false},
		"Last 0, Number 0":                   {bookOf(0, holds("a", 0, free)), 5, false},
		"Last below 0, Number below 0":       {bookOf(-1, holds("a", -2, free)), 5, false},
		"Number LinkMaxNumber":               {bookOf(1000000, holds("a", 1000000, free)), 5, true},
		"Sent LinkMaxNumber":                 {bookOf(1000000, awaits("a", 999999, free, 1000000, free)), 5, true},
		"Sent one past it":                   {bookOf(1000000, awaits("a", 1000000, free, 1000001, free)), 5, false},
		"all one past LinkMaxNumber":         {bookOf(1000001, holds("a", 1000001, free)), 5, false},
		"out of order":                       {bookOf(9, holds("bee", 1, lane(1, 5, 6)), holds("ant", 2, lane(6, 5, 6))), 5, false},
		"the last two out of order":          {bookOf(9, holds("a", 1, lane(1, 5, 6)), holds("c", 2, lane(4, 5, 6)), holds("b", 3, lane(8, 5, 6))), 5, false},
		"the first beginning the second":     {bookOf(9, holds("a", 1, lane(1, 5, 6)), holds("ab", 2, lane(6, 5, 6))), 5, true},
		"the second beginning the first":     {bookOf(9, holds("ab", 1, lane(1, 5, 6)), holds("a", 2, lane(6, 5, 6))), 5, false},
		"a digit ahead of a letter":          {bookOf(9, holds("9", 1, lane(1, 5, 6)), holds("a", 2, lane(6, 5, 6))), 5, true},
		"a dash ahead of a digit":            {bookOf(9, holds("a-", 1, lane(1, 5, 6)), holds("a0", 2, lane(6, 5, 6))), 5, true},
		"two of one name":                    {bookOf(9, holds("ant", 1, lane(1, 5, 6)), holds("ant", 2, lane(6, 5, 6))), 5, false},
		"two of one name, one and the same":  {bookOf(9, holds("ant", 1, lane(1, 5, 6)), holds("ant", 1, lane(1, 5, 6))), 5, false},
		"no name":                            {bookOf(9, holds("", 1, free)), 5, false},
		"a name that is none":                {bookOf(9, holds("Ant", 1, free)), 5, false},
		"a name of 8 bytes":                  {bookOf(9, holds("abc-0129", 1, free)), 5, true},
		"a name of 9 bytes":                  {bookOf(9, holds("abc-01290", 1, free)), 5, false},
		"a name that is no text":             {bookOf(9, holds("a\xff", 1, free)), 5, false},
		"the second's name is none":          {bookOf(9, holds("a", 1, lane(1, 5, 6)), holds("a b", 2, lane(6, 5, 6))), 5, false},
		"Number 0":                           {bookOf(9, holds("a", 0, free)), 5, false},
		"Number 1":                           {bookOf(9, holds("a", 1, free)), 5, true},
		"Number below 0":                     {bookOf(9, holds("a", -1, free)), 5, false},
		"Number 0, and Sent":                 {bookOf(9, awaits("a", 0, free, 3, free)), 5, false},
		"Number below 0, and Sent":           {bookOf(9, awaits("a", -5, free, 3, free)), 5, false},
		"Number at the least":                {bookOf(9, holds("a", least, free)), 5, false},
		"Number at the greatest":             {bookOf(9, holds("a", most, free)), 5, false},
		"a Number twice":                     {otherBook(func(b *impl.LinkBook) { b.Held[1].Number = 2 }), 5, false},
		"a Number that was sent to another":  {otherBook(func(b *impl.LinkBook) { b.Held[1].Number = 4 }), 5, false},
		"the other way round":                {bookOf(9, holds("a", 4, lane(1, 5, 6)), awaits("b", 2, lane(6, 5, 6), 4, lane(6, 5, 7))), 5, false},
		"a Sent twice":                       {otherBook(func(b *impl.LinkBook) { b.Held[1] = awaits("bee", 3, lane(6, 5, 6), 4, lane(6, 5, 7)) }), 5, false},
		"two with nothing sent":              {bookOf(9, holds("a", 1, lane(1, 5, 6)), holds("b", 2, lane(6, 5, 6))), 5, true},
		"numbers against the order of names": {bookOf(9, awaits("a", 7, lane(1, 5, 6), 9, lane(1, 5, 7)), awaits("b", 6, lane(6, 5, 6), 8, lane(6, 5, 7))), 5, true},
		"Sent 0 with a Next":                 {bookOf(9, awaits("a", 1, free, 0, free)), 5, false},
		"Sent 0 with a Next that is not ok":  {bookOf(9, awaits("a", 1, free, 0, impl.FlyPath{By: 1})), 5, false},
		"Sent 0 with an empty list":          {bookOf(9, awaits("a", 1, free, 0, impl.FlyPath{Steps: []impl.FlyStep{}})), 5, true},
		"Sent with no Next":                  {bookOf(9, awaits("a", 1, free, 2, impl.FlyPath{})), 5, false},
		"Sent equal to Number":               {bookOf(9, awaits("a", 3, free, 3, free)), 5, false},
		"Sent one below Number":              {bookOf(9, awaits("a", 3, free, 2, free)), 5, false},
		"Sent one above Number":              {bookOf(9, awaits("a", 3, free, 4, free)), 5, true},
		"Sent above Last by one":             {bookOf(9, awaits("a", 3, free, 10, free)), 5, false},
		"Sent equal to Last":                 {bookOf(9, awaits("a", 3, free, 9, free)), 5, true},
		"Sent below 0":                       {bookOf(9, awaits("a", 3, free, -1, free)), 5, false},
		"Sent below 0 with no Next":          {bookOf(9, awaits("a", 3, free, -1, impl.FlyPath{})), 5, false},
		"Sent at the least":                  {bookOf(9, awaits("a", 3, free, least, free)), 5, false},
		"Sent at the greatest":               {bookOf(9, awaits("a", 3, free, most, free)), 5, false},
		"a Path that is nothing":             {bookOf(9, holds("a", 1, impl.FlyPath{})), 5, false},
		"a Path with no flight":              {bookOf(9, holds("a", 1, noFlight())), 5, false},
		"a Path that is not ok":              {bookOf(9, holds("a", 1, zigzag(41))), 5, false},
		"a Path of forty steps":              {bookOf(9, holds("a", 1, zigzag(40))), 5, true},
		"a Path that is over":                {bookOf(9, holds("a", 1, lane(1, 5, 6))), 500, true},
		"a Next with no flight":              {bookOf(9, awaits("a", 1, free, 2, noFlight())), 5, false},
		"a Next that is not ok":              {bookOf(9, awaits("a", 1, free, 2, zigzag(41))), 5, false},
		"the second's Path with no flight":   {bookOf(9, holds("a", 1, free), holds("b", 2, noFlight())), 5, false},
		"the second's Next with no flight":   {bookOf(9, holds("a", 1, free), awaits("b", 2, lane(1, 5, 6), 3, noFlight())), 5, false},
	} {
		if got := impl.LinkBookOk(c.book, c.now); got != c.ok {
			t.Errorf("%s: %v", name, got)
		}
		if got := plainBookOk(c.book, c.now); got != c.ok {
			t.Errorf("%s: the plain telling says %v", name, got)
		}
	}
}

// Two of whom but one path of the one and one of the other come too near, from
// tick 9 to tick 11: the book is ok from 12 on alone.
func TestLinkBookOkOfWhatComesTooNear(t *testing.T) {
	first, second := lane(4, 5, 6), lane(5, 9, 9)
	farFirst, farSecond := lane(1, 5, 6), lane(9, 9, 9)
	last := lane(13, 5, 6)
	for name, book := range map[string]impl.LinkBook{
		"Path and Path":                   bookOf(9, holds("a", 1, first), holds("b", 2, second)),
		"Path and Path, both sent":        bookOf(9, awaits("a", 1, first, 3, farFirst), awaits("b", 2, second, 4, farSecond)),
		"Path and Next":                   bookOf(9, awaits("a", 1, first, 3, farFirst), awaits("b", 2, farSecond, 4, second)),
		"Path and Next, one sent":         bookOf(9, holds("a", 1, first), awaits("b", 2, farSecond, 4, second)),
		"Next and Path":                   bookOf(9, awaits("a", 1, farFirst, 3, first), awaits("b", 2, second, 4, farSecond)),
		"Next and Path, one sent":         bookOf(9, awaits("a", 1, farFirst, 3, first), holds("b", 2, second)),
		"Next and Next":                   bookOf(9, awaits("a", 1, farFirst, 3, first), awaits("b", 2, farSecond, 4, second)),
		"the later one first":             bookOf(9, holds("a", 1, second), holds("b", 2, first)),
		"the first and the third":         bookOf(9, holds("a", 1, first), holds("b", 2, last), holds("c", 3, second)),
		"the second and the third":        bookOf(9, holds("a", 1, last), holds("b", 2, first), holds("c", 3, second)),
		"Next of one and Path of a third": bookOf(9, awaits("a", 1, farFirst, 4, first), holds("b", 2, last), holds("c", 3, second)),
	} {
		for now := range 30 {
			if got := impl.LinkBookOk(book, now); got != (now >= 12) {
				t.Errorf("%s, now %d: %v", name, now, got)
			}
		}
	}
	for name, book := range map[string]impl.LinkBook{
		"Path and Next of one":          bookOf(9, awaits("a", 1, first, 3, second)),
		"one path twice":                bookOf(9, awaits("a", 1, first, 3, first)),
		"of one, and somebody far away": bookOf(9, holds("a", 1, last), awaits("b", 2, first, 3, second)),
		"all four far from each other":  bookOf(9, awaits("a", 1, first, 3, farFirst), awaits("b", 2, farSecond, 4, last)),
	} {
		for now := range 30 {
			if !impl.LinkBookOk(book, now) {
				t.Errorf("%s, now %d: it is not ok", name, now)
			}
		}
	}
}

func TestLinkFree(t *testing.T) {
	b := twoHold()
	for name, c := range map[string]struct {
		book impl.LinkBook
		name string
		path impl.FlyPath
		now  int
		free bool
	}{
		"far from all":                     {b, "cat", lane(12, 5, 6), 0, true},
		"nobody there":                     {impl.LinkBook{}, "cat", lane(12, 5, 6), 0, true},
		"too near a Path":                  {b, "cat", lane(0, 5, 6), 0, false},
		"too near a Next":                  {b, "cat", lane(3, 5, 6), 0, false},
		"too near both of one":             {b, "cat", lane(1, 5, 6), 0, false},
		"too near the second's Path":       {b, "cat", lane(7, 5, 6), 0, false},
		"its own Path":                     {b, "ant", lane(0, 5, 6), 0, true},
		"its own Next":                     {b, "ant", lane(3, 5, 6), 0, true},
		"its own Path and Next, the same":  {b, "ant", lane(1, 5, 6), 0, true},
		"the second's own":                 {b, "bee", lane(6, 5, 6), 0, true},
		"its own, and another's":           {b, "bee", lane(3, 5, 6), 0, false},
		"the first, too near the second":   {b, "ant", lane(5, 5, 6), 0, false},
		"a name that nobody has":           {b, "an", lane(1, 5, 6), 0, false},
		"a longer name":                    {b, "ants", lane(1, 5, 6), 0, false},
		"a name that is none":              {b, "Ant", lane(1, 5, 6), 0, false},
		"a name that is none, far":         {b, "Ant", lane(12, 5, 6), 0, true},
		"no name, far":                     {b, "", lane(12, 5, 6), 0, true},
		"no name, near":                    {b, "", lane(1, 5, 6), 0, false},
		"a name as inner tubes may have":   {b, "any", lane(1, 5, 6), 0, false},
		"no flight":                        {b, "ant", noFlight(), 0, false},
		"nothing":                          {b, "ant", impl.FlyPath{}, 0, false},
		"not ok":                           {b, "ant", zigzag(41), 0, false},
		"no flight, nobody there":          {impl.LinkBook{}, "ant", noFlight(), 0, false},
		"near up to this tick":             {b, "cat", lane(0, 9, 9), 11, false},
		"near no more from this one on":    {b, "cat", lane(0, 9, 9), 12, true},
		"a Next that is over by then":      {b, "cat", lane(3, 20, 20), 0, true},
		"a Next, up to its last tick":      {b, "cat", lane(3, 11, 11), 13, false},
		"a Next, behind its last tick":     {b, "cat", lane(3, 11, 11), 14, true},
		"the path is over":                 {b, "cat", lane(1, 5, 6), 14, true},
		"now FlyMaxTick":                   {b, "cat", lane(1, 5, 6), 10000, true},
		"now one past it":                  {b, "cat", lane(1, 5, 6), 10001, false},
		"now below 0":                      {b, "cat", lane(12, 5, 6), -1, false},
		"now at the least":                 {b, "cat", lane(12, 5, 6), math.MinInt, false},
		"now at the greatest":              {b, "cat", lane(12, 5, 6), math.MaxInt, false},
		"a book that is full":              {manyHold(8), "z", lane(1, 100, 101), 0, true},
		"a book of too many":               {manyHold(9), "z", lane(1, 100, 101), 0, false},
		"a book not ok, by a number":       {otherBook(func(b *impl.LinkBook) { b.Last = 1 }), "cat", lane(12, 5, 6), 0, false},
		"a book not ok, of one's own":      {bookOf(9, holds("a", 0, lane(1, 5, 6))), "a", lane(12, 5, 6), 0, false},
		"a book of two who come too near":  {bookOf(9, holds("a", 1, lane(1, 5, 6)), holds("b", 2, lane(2, 5, 6))), "c", lane(12, 5, 6), 0, false},
		"the same, when they no longer do": {bookOf(9, holds("a", 1, lane(1, 5, 6)), holds("b", 2, lane(2, 5, 6))), "c", lane(12, 5, 6), 12, true},
		"a book with Last LinkMaxNumber":   {bookOf(1000000, holds("a", 1, lane(1, 5, 6))), "c", lane(12, 5, 6), 0, true},
	} {
		if got := impl.LinkFree(c.book, c.name, c.path, c.now); got != c.free {
			t.Errorf("%s: %v", name, got)
		}
		if got := plainFree(c.book, c.name, c.path, c.now); got != c.free {
			t.Errorf("%s: the plain telling says %v", name, got)
		}
	}
}

// plainFree says LinkFree once more, one by one.
func plainFree(b impl.LinkBook, name string, p impl.FlyPath, now int) bool {
	free := plainBookOk(b, now) && anyFlight(p)
	for _, h := range b.Held {
		free = free && (h.Name == name || plainBothFree(h, p, now))
	}
	return free
}

func TestLinkBookOkAndLinkFreeOfManyBooks(t *testing.T) {
	counts := map[string]int{}
	someBooks(4000, 5, func(b impl.LinkBook, roll func(int) int) {
		for now := -1; now < 22; now += 1 + roll(6) {
			ok := impl.LinkBookOk(b, now)
			if want := plainBookOk(b, now); ok != want {
				t.Errorf("%v now %d: %v", b, now, ok)
			}
			name, p := string([]byte{byte('a' + roll(6))}), someLane(roll, roll(16))
			free := impl.LinkFree(b, name, p, now)
			if want := plainFree(b, name, p, now); free != want {
				t.Errorf("%v, %s, %v now %d: free is %v", b, name, p, now, free)
			}
			counts["ok"] += count(ok)
			counts["not ok"] += count(!ok)
			counts["free"] += count(free)
			counts["ok and not free"] += count(ok && !free)
		}
	})
	for what, size := range counts {
		if size < 1000 {
			t.Errorf("%s: %d", what, size)
		}
	}
}

// bookNumbers are the places of all numbers of a book but those of its paths.
func bookNumbers(b *impl.LinkBook) []*int {
	all := []*int{&b.Last}
	for place := range b.Held {
		all = append(all, &b.Held[place].Number, &b.Held[place].Sent)
	}
	return all
}

func TestLinkBookOkAndLinkFreeOfWildNumbers(t *testing.T) {
	some := append([]int{3, 4, 8, 9, 10, 999999, 1000000, 1000001}, wild...)
	for place := range bookNumbers(&impl.LinkBook{Held: make([]impl.LinkHeld, 2)}) {
		for _, n := range some {
			for _, now := range some {
				b := twoHold()
				*bookNumbers(&b)[place] = n
				if got, want := impl.LinkBookOk(b, now), plainBookOk(b, now); got != want {
					t.Errorf("%v now %d: %v", b, now, got)
				}
				p := lane(12, 5, 6)
				if got, want := impl.LinkFree(b, "cat", p, now), plainFree(b, "cat", p, now); got != want {
					t.Errorf("%v now %d: free is %v", b, now, got)
				}
			}
		}
	}
}

// Each number of each path in turn is made wild.
func TestLinkBookOkAndLinkFreeOfWildPaths(t *testing.T) {
	for name, at := range pathNumbers() {
		for _, n := range wild {
			for place := range 3 {
				b, p := twoHold(), lane(12, 5, 6)
				paths := []*impl.FlyPath{&b.Held[0].Path, &b.Held[0].Next, &p}
				*at(paths[place]) = n
				if got, want := impl.LinkBookOk(b, 5), plainBookOk(b, 5); got != want {
					t.Errorf("%s of path %d is %d: %v", name, place, n, got)
				}
				if got, want := impl.LinkFree(b, "cat", p, 5), plainFree(b, "cat", p, 5); got != want {
					t.Errorf("%s of path %d is %d: free is %v", name, place, n, got)
				}
			}
		}
	}
}

func TestLinkBookOkAndLinkFreeWriteNothing(t *testing.T) {
	for name, b := range map[string]impl.LinkBook{
		"two": twoHold(), "nobody": {}, "eight": manyHold(8), "nine": manyHold(9), "not ok": bookOf(1, holds("A", 3, noFlight())),
	} {
		for _, now := range []int{0, 8, 10001} {
			wantOwnMemory(t, name, b, lane(7, 5, 6), func(b impl.LinkBook, p impl.FlyPath) (impl.LinkBook, impl.LinkWord) {
				impl.LinkBookOk(b, now)
				impl.LinkFree(b, "ant", p, now)
				return impl.LinkBook{}, impl.LinkWord{}
			})
		}
	}
}
