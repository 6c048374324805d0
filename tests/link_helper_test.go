package tests

import (
	"reflect"
	"slices"
	"testing"

	"loop.example/laplink/impl"
)

// lane is a path of three steps along a row of cells, entered at from to by.
// Its boxes are at from to by + 1, from + 1 to by + 3 and from + 2 to by + 5.
// Those of rows beside each other come too near, as long as both have boxes;
// those of rows further apart never do.
func lane(row int, from int, by int) impl.FlyPath {
	p := impl.FlyPath{Kind: impl.FlyKind{Quick: 1, Slow: 2}, By: by + 20}
	for x := range 3 {
		p.Steps = append(p.Steps, impl.FlyStep{X: x, Y: row, Low: 1, High: 2, By: by + 20})
	}
	p.Steps[0].From, p.Steps[0].By = from, by
	return p
}

// holds is somebody to whom nothing was sent.
func holds(name string, number int, path impl.FlyPath) impl.LinkHeld {
	return impl.LinkHeld{Name: name, Number: number, Path: path}
}

// awaits is somebody to whom something was sent.
func awaits(name string, number int, path impl.FlyPath, sent int, next impl.FlyPath) impl.LinkHeld {
	return impl.LinkHeld{Name: name, Number: number, Path: path, Sent: sent, Next: next}
}

func bookOf(last int, held ...impl.LinkHeld) impl.LinkBook {
	return impl.LinkBook{Last: last, Held: held}
}

// twoHold is an ok book: ant was sent something, bee was not.
func twoHold() impl.LinkBook {
	return bookOf(9, awaits("ant", 2, lane(1, 5, 6), 4, lane(2, 5, 8)), holds("bee", 3, lane(6, 5, 6)))
}

// otherBook is twoHold with a change.
func otherBook(change func(b *impl.LinkBook)) impl.LinkBook {
	b := twoHold()
	change(&b)
	return b
}

// manyHold is a book of so many; up to eight of them are ok together.
func manyHold(count int) impl.LinkBook {
	b := impl.LinkBook{Last: 2 * count}
	for i := range count {
		row, from := 2*(i%8), 5+40*(i/8)
		b.Held = append(b.Held, awaits(string([]byte{byte('a' + i)}), i+1, lane(row, from, from+1), count+i+1, lane(row, from, from+2)))
	}
	return b
}

func sameHeld(a impl.LinkHeld, b impl.LinkHeld) bool {
	same := a.Name == b.Name && a.Number == b.Number && a.Sent == b.Sent
	return same && samePath(a.Path, b.Path) && samePath(a.Next, b.Next)
}

// sameBook holds two books against each other; an empty list is the same as nil.
func sameBook(a impl.LinkBook, b impl.LinkBook) bool {
	return a.Last == b.Last && slices.EqualFunc(a.Held, b.Held, sameHeld)
}

// plainTooNear looks at each tick from now on at which two paths have boxes.
func plainTooNear(p impl.FlyPath, q impl.FlyPath, now int) bool {
	for _, a := range plainLinkTube("p", p, now).Boxes {
		for _, b := range plainLinkTube("q", q, now).Boxes {
			for tick := a.In; tick <= a.Out; tick++ {
				if plainNear(a, b, tick) {
					return true
				}
			}
		}
	}
	return false
}

// plainBothFree says whether a path comes too near neither of somebody's two.
func plainBothFree(h impl.LinkHeld, p impl.FlyPath, now int) bool {
	return !plainTooNear(h.Path, p, now) && !plainTooNear(h.Next, p, now)
}

// plainBookOk says of a book what chapter 23 says, word by word.
func plainBookOk(b impl.LinkBook, now int) bool {
	ok := len(b.Held) <= 8 && within(0, now, 10000) && within(0, b.Last, 1000000)
	for i, h := range b.Held {
		ok = ok && plainName(h.Name) && within(1, h.Number, b.Last) && anyFlight(h.Path)
		without := h.Sent == 0 && isEmpty(h.Next)
		with := within(1, h.Sent, b.Last) && h.Sent > h.Number && anyFlight(h.Next)
		ok = ok && (without || with)
		for _, ahead := range b.Held[:i] {
			ok = ok && ahead.Name < h.Name
			ok = ok && h.Number != ahead.Number && h.Number != ahead.Sent
			ok = ok && h.Sent != ahead.Number && (h.Sent == 0 || h.Sent != ahead.Sent)
			ok = ok && plainBothFree(ahead, h.Path, now) && plainBothFree(ahead, h.Next, now)
		}
	}
	return ok
}

func rolls(seed uint32) func(below int) int {
	return func(below int) int {
		seed = seed*1664525 + 1013904223
		return int(seed>>16) % below
	}
}

// someLane is a path of a row; now and then one along which there is no flight.
func someLane(roll func(int) int, row int) impl.FlyPath {
	from := roll(12)
	p := lane(row, from, from+roll(4))
	switch roll(40) {
	case 0:
		p.By = from
	case 1:
		p.Steps[1].X = 9
	case 2:
		return impl.FlyPath{}
	}
	return p
}

// spoilers each make a book that is ok not ok, as a rule.
func spoilers(roll func(int) int) []func(b *impl.LinkBook, h *impl.LinkHeld) {
	return []func(b *impl.LinkBook, h *impl.LinkHeld){
		func(b *impl.LinkBook, h *impl.LinkHeld) { h.Name = []string{"", "K", "a", "b", "c", "d"}[roll(6)] },
		func(b *impl.LinkBook, h *impl.LinkHeld) { h.Number = roll(12) - 1 },
		func(b *impl.LinkBook, h *impl.LinkHeld) { h.Sent = roll(12) - 1 },
		func(b *impl.LinkBook, h *impl.LinkHeld) { h.Next = impl.FlyPath{} },
		func(b *impl.LinkBook, h *impl.LinkHeld) { h.Next = someLane(roll, roll(16)) },
		func(b *impl.LinkBook, h *impl.LinkHeld) { h.Path = noFlight() },
		func(b *impl.LinkBook, h *impl.LinkHeld) { b.Last = roll(14) - 1 },
		func(b *impl.LinkBook, h *impl.LinkHeld) { slices.Reverse(b.Held) },
	}
}

// someBooks are books of up to four, whose rows are so wide apart that about
// half of them are ok; the others are not, each in a way of its own.
func someBooks(count int, seed uint32, each func(b impl.LinkBook, roll func(int) int)) {
	roll := rolls(seed)
	for range count {
		var b impl.LinkBook
		for i := range roll(5) {
			row := 4*i + roll(3)
			h := holds(string([]byte{byte('a' + i)}), b.Last+1, someLane(roll, row))
			b.Last += 1 + roll(2)
			if roll(2) == 0 {
				b.Last++
				h.Sent, h.Next = b.Last, someLane(roll, 4*i+roll(4))
			}
			b.Held = append(b.Held, h)
		}
		if roll(15) == 0 {
			b.Last = 1000000
		}
		if ways := spoilers(roll); roll(3) == 0 && len(b.Held) > 0 {
			ways[roll(len(ways))](&b, &b.Held[roll(len(b.Held))])
		}
		each(b, roll)
	}
}

// roomyPath is the path with spare room behind its steps.
func roomyPath(p impl.FlyPath) impl.FlyPath {
	size := len(p.Steps)
	p.Steps = append(slices.Clone(p.Steps), impl.FlyStep{X: 91}, impl.FlyStep{X: 92})[:size]
	return p
}

// roomyBook is the book with spare room behind each of its lists.
func roomyBook(b impl.LinkBook) impl.LinkBook {
	var held []impl.LinkHeld
	for _, h := range append(slices.Clone(b.Held), holds("x", 77, lane(3, 4, 5)), holds("y", 78, lane(4, 4, 5))) {
		h.Path, h.Next = roomyPath(h.Path), roomyPath(h.Next)
		held = append(held, h)
	}
	return impl.LinkBook{Last: b.Last, Held: held[:len(b.Held)]}
}

// wholePath is a path with its spare room told as steps, in memory of its own.
func wholePath(p impl.FlyPath) impl.FlyPath {
	p.Steps = slices.Clone(p.Steps[:cap(p.Steps)])
	return p
}

// wholeBook is a book with its spare room told as what it holds, in memory of its own.
func wholeBook(b impl.LinkBook) impl.LinkBook {
	whole := impl.LinkBook{Last: b.Last}
	for _, h := range b.Held[:cap(b.Held)] {
		h.Path, h.Next = wholePath(h.Path), wholePath(h.Next)
		whole.Held = append(whole.Held, h)
	}
	return whole
}

// stepLists are all lists of steps that an answer reaches, spare room included.
func stepLists(b impl.LinkBook, w impl.LinkWord) [][]impl.FlyStep {
	lists := [][]impl.FlyStep{w.Path.Steps}
	for _, h := range b.Held[:cap(b.Held)] {
		lists = append(lists, h.Path.Steps, h.Next.Steps)
	}
	for i := range lists {
		lists[i] = lists[i][:cap(lists[i])]
	}
	return lists
}

// spoilAnswer writes over all that an answer reaches, and says whether no two
// of its lists share any memory.
func spoilAnswer(b impl.LinkBook, w impl.LinkWord) bool {
	lists := stepLists(b, w)
	for mark, list := range lists {
		for i := range list {
			list[i] = impl.FlyStep{X: -1 - mark, Y: i}
		}
	}
	own := true
	for mark, list := range lists {
		for i := range list {
			own = own && list[i] == impl.FlyStep{X: -1 - mark, Y: i}
		}
	}
	for i := range b.Held[:cap(b.Held)] {
		b.Held[:cap(b.Held)][i] = impl.LinkHeld{Name: "spoilt"}
	}
	return own
}

// wantOwnMemory calls with a book and a path that have spare room; the answer
// may share none of it, and what was handed in must be as it was.
func wantOwnMemory(t *testing.T, name string, b impl.LinkBook, p impl.FlyPath, call func(b impl.LinkBook, p impl.FlyPath) (impl.LinkBook, impl.LinkWord)) {
	t.Helper()
	book, path := roomyBook(b), roomyPath(p)
	keptBook, keptPath := wholeBook(book), wholePath(path)
	first, firstWord := call(book, path)
	second, secondWord := call(book, path)
	if !spoilAnswer(first, firstWord) {
		t.Errorf("%s: two lists of the answer share memory", name)
	}
	again, againWord := call(book, path)
	if !sameBook(second, again) || !sameWord(secondWord, againWord) {
		t.Errorf("%s: behind a change of an answer: %v %v, not %v %v", name, again, againWord, second, secondWord)
	}
	if !reflect.DeepEqual(wholeBook(book), keptBook) || !reflect.DeepEqual(wholePath(path), keptPath) {
		t.Errorf("%s: written: %v %v, not %v %v", name, wholeBook(book), wholePath(path), keptBook, keptPath)
	}
}
