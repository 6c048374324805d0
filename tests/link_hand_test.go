package tests

import (
	"math"
	"slices"
	"testing"

	"loop.example/laplink/impl"
)

// handCase is what is asked for by hand, and with which code it is answered.
type handCase struct {
	book impl.LinkBook
	name string
	path impl.FlyPath
	now  int
	code int
}

// filed is the answer of LinkFile with the code of the case.
func (c handCase) filed() (impl.LinkBook, impl.LinkWord) {
	if c.code != 0 {
		return c.refused()
	}
	number := c.book.Last + 1
	book := impl.LinkBook{Last: number, Held: append(slices.Clone(c.book.Held), holds(c.name, number, c.path))}
	slices.SortFunc(book.Held, func(a impl.LinkHeld, b impl.LinkHeld) int { return count(a.Name > b.Name) - count(a.Name < b.Name) })
	return book, impl.LinkWord{Kind: 1, Name: c.name, Number: number, Path: c.path}
}

// sent is the answer of LinkSend with the code of the case.
func (c handCase) sent() (impl.LinkBook, impl.LinkWord) {
	if c.code != 0 {
		return c.refused()
	}
	number := c.book.Last + 1
	book := impl.LinkBook{Last: number}
	for _, h := range c.book.Held {
		if h.Name == c.name {
			h.Sent, h.Next = number, c.path
		}
		book.Held = append(book.Held, h)
	}
	return book, impl.LinkWord{Kind: 2, Name: c.name, Number: number, Path: c.path}
}

func (c handCase) refused() (impl.LinkBook, impl.LinkWord) {
	if c.code == 1 {
		return impl.LinkBook{}, impl.LinkWord{}
	}
	return c.book, impl.LinkWord{}
}

// wantFile holds LinkFile against a case. Promise 15: the book is ok behind it.
func wantFile(t *testing.T, name string, c handCase) {
	t.Helper()
	want, word := c.filed()
	book, said, code := impl.LinkFile(c.book, c.name, c.path, c.now)
	if code != c.code || !sameBook(book, want) || !sameWord(said, word) {
		t.Errorf("%s: %v %v %d, not %v %v %d", name, book, said, code, want, word, c.code)
	}
	if code == 0 && (!impl.LinkBookOk(book, c.now) || !impl.LinkWordOk(said)) {
		t.Errorf("%s: %v or %v is not ok", name, book, said)
	}
}

// wantSend holds LinkSend against a case. Promise 15: the book is ok behind it,
// and what is sent ahead of an answer is told 7.
func wantSend(t *testing.T, name string, c handCase) {
	t.Helper()
	want, word := c.sent()
	book, said, code := impl.LinkSend(c.book, c.name, c.path, c.now)
	if code != c.code || !sameBook(book, want) || !sameWord(said, word) {
		t.Errorf("%s: %v %v %d, not %v %v %d", name, book, said, code, want, word, c.code)
	}
	if code != 0 {
		return
	}
	if !impl.LinkBookOk(book, c.now) || !impl.LinkWordOk(said) {
		t.Errorf("%s: %v or %v is not ok", name, book, said)
	}
	again, none, code := impl.LinkSend(book, c.name, c.path, c.now)
	if code != 7 || !sameBook(again, book) || !sameWord(none, impl.LinkWord{}) {
		t.Errorf("%s, sent once more: %v %v %d", name, again, none, code)
	}
}

// lastNumber is the book with the greatest number given.
func lastNumber(b impl.LinkBook) impl.LinkBook {
	b.Last = 1000000
	return b
}

func TestLinkFile(t *testing.T) {
	b, far := twoHold(), lane(12, 5, 6)
	named := bookOf(9, holds("bee", 1, lane(1, 5, 6)), holds("dog", 2, lane(4, 5, 6)), holds("fox", 3, lane(7, 5, 6)))
	for name, c := range map[string]handCase{
		"into nothing":                            {impl.LinkBook{}, "kite", far, 0, 0},
		"into nothing, an empty list":             {impl.LinkBook{Held: []impl.LinkHeld{}}, "kite", far, 0, 0},
		"nobody, behind some numbers":             {bookOf(41), "kite", far, 0, 0},
		"behind two":                              {b, "cat", far, 0, 0},
		"at the front":                            {named, "ant", far, 0, 0},
		"behind the first":                        {named, "cat", far, 0, 0},
		"behind the second":                       {named, "eel", far, 0, 0},
		"at the end":                              {named, "gnu", far, 0, 0},
		"at the front, a beginning of the first":  {named, "be", far, 0, 0},
		"behind the first, which begins it":       {named, "bees", far, 0, 0},
		"at the end, the last beginning it":       {named, "fox-1", far, 0, 0},
		"at the front, a digit":                   {named, "0", far, 0, 0},
		"a name of 8 bytes":                       {named, "abc-0129", far, 0, 0},
		"the eighth":                              {manyHold(7), "z", lane(14, 5, 6), 0, 0},
		"the last number":                         {bookOf(999999, holds("a", 1, lane(1, 5, 6))), "b", far, 0, 0},
		"its last first tick is one behind now":   {b, "cat", far, 5, 0},
		"beside somebody, when they are gone":     {b, "cat", lane(1, 14, 15), 0, 0},
		"beside somebody, from now on":            {b, "cat", lane(6, 12, 13), 0, 0},
		"now FlyMaxTick but two":                  {impl.LinkBook{}, "cat", allTicks(), 9998, 0},
		"1: a book that is not ok":                {otherBook(func(b *impl.LinkBook) { b.Last = 1 }), "cat", far, 0, 1},
		"1: two who come too near":                {bookOf(9, holds("a", 1, lane(1, 5, 6)), holds("b", 2, lane(2, 5, 6))), "cat", far, 0, 1},
		"1: too many":                             {manyHold(9), "z", lane(1, 100, 101), 0, 1},
		"1: now below 0":                          {b, "cat", far, -1, 1},
		"1: now past FlyMaxTick":                  {b, "cat", far, 10001, 1},
		"1: now at the least":                     {b, "cat", far, math.MinInt, 1},
		"1: now at the greatest":                  {b, "cat", far, math.MaxInt, 1},
		"1: Last past LinkMaxNumber":              {bookOf(1000001), "cat", far, 0, 1},
		"2: no name":                              {b, "", far, 0, 2},
		"2: a name that is none":                  {b, "Cat", far, 0, 2},
		"2: a name of 9 bytes":                    {b, "abc-01290", far, 0, 2},
		"2: a name that is no text":               {b, "c\xff", far, 0, 2},
		"2: its last first tick is now":           {b, "cat", far, 6, 2},
		"2: its last first tick is past":          {b, "cat", far, 7, 2},
		"2: as its end pulls it back":             {b, "cat", changed(func(p *impl.FlyPath) { p.By = 22 }), 13, 2},
		"2: no flight":                            {b, "cat", noFlight(), 0, 2},
		"2: nothing":                              {b, "cat", impl.FlyPath{}, 0, 2},
		"2: not ok":                               {b, "cat", zigzag(41), 0, 2},
		"2: now FlyMaxTick but one":               {impl.LinkBook{}, "cat", allTicks(), 9999, 2},
		"2: now FlyMaxTick":                       {impl.LinkBook{}, "cat", allTicks(), 10000, 2},
		"3: the first":                            {b, "ant", far, 0, 3},
		"3: the second":                           {b, "bee", far, 0, 3},
		"3: with the path that it holds":          {b, "bee", lane(6, 5, 6), 0, 3},
		"4: no number left":                       {lastNumber(b), "cat", far, 0, 4},
		"4: no number left, nobody there":         {bookOf(1000000), "cat", far, 0, 4},
		"4: no room":                              {manyHold(8), "z", lane(1, 100, 101), 0, 4},
		"5: a Path":                               {b, "cat", lane(0, 5, 6), 0, 5},
		"5: a Next":                               {b, "cat", lane(3, 5, 6), 0, 5},
		"5: the second's Path":                    {b, "cat", lane(7, 5, 6), 0, 5},
		"5: up to the last tick of a Path":        {b, "cat", lane(0, 10, 12), 11, 5},
		"1, not 2":                                {otherBook(func(b *impl.LinkBook) { b.Last = 1 }), "Cat", noFlight(), 0, 1},
		"1, not 3":                                {otherBook(func(b *impl.LinkBook) { b.Last = 1 }), "ant", far, 0, 1},
		"1, not 4":                                {lastNumber(manyHold(9)), "z", far, 0, 1},
		"1, not 5":                                {otherBook(func(b *impl.LinkBook) { b.Last = 1 }), "cat", lane(0, 5, 6), 0, 1},
		"2, not 3":                                {b, "ant", far, 6, 2},
		"2, not 3, by no flight":                  {b, "ant", noFlight(), 0, 2},
		"2, not 4":                                {lastNumber(b), "Cat", far, 0, 2},
		"2, not 4, no room":                       {manyHold(8), "z", impl.FlyPath{}, 0, 2},
		"2, not 5":                                {b, "cat", lane(0, 5, 6), 6, 2},
		"2, not 5, by the name":                   {b, "Cat", lane(0, 5, 6), 0, 2},
		"3, not 4":                                {lastNumber(b), "ant", far, 0, 3},
		"3, not 4, no room":                       {manyHold(8), "a", lane(1, 100, 101), 0, 3},
		"3, not 5":                                {b, "ant", lane(6, 5, 6), 0, 3},
		"4, not 5":                                {lastNumber(b), "cat", lane(0, 5, 6), 0, 4},
		"4, not 5, no room":                       {manyHold(8), "z", lane(0, 5, 6), 0, 4},
		"nothing at all":                          {impl.LinkBook{}, "", impl.FlyPath{}, 0, 2},
		"0, when somebody's path is over":         {b, "cat", lane(1, 100, 101), 50, 0},
		"0, at the first tick somebody is gone":   {b, "cat", lane(7, 5, 13), 12, 0},
		"5, one tick ahead of that":               {b, "cat", lane(7, 5, 13), 11, 5},
		"0, beside those with a Next behind them": {b, "cat", lane(3, 14, 14), 0, 0},
	} {
		wantFile(t, name, c)
	}
}

func TestLinkSend(t *testing.T) {
	b, far := twoHold(), lane(12, 5, 6)
	three := bookOf(9, holds("bee", 1, lane(1, 5, 6)), holds("dog", 2, lane(4, 5, 6)), holds("fox", 3, lane(7, 5, 6)))
	for name, c := range map[string]handCase{
		"to the first":                       {three, "bee", far, 0, 0},
		"to the one in the middle":           {three, "dog", far, 0, 0},
		"to the last":                        {three, "fox", far, 0, 0},
		"to one, another was sent something": {b, "bee", far, 0, 0},
		"too near what it holds itself":      {three, "dog", lane(4, 6, 9), 0, 0},
		"the path that it holds":             {three, "dog", lane(4, 5, 6), 0, 0},
		"between two rows":                   {bookOf(9, holds("a", 1, lane(1, 5, 6)), holds("b", 2, lane(4, 5, 6))), "a", lane(2, 5, 6), 0, 0},
		"the last number":                    {bookOf(999999, holds("a", 1, lane(1, 5, 6))), "a", far, 0, 0},
		"a path that can't be waited for":    {three, "dog", far, 6, 0},
		"a path that is over":                {three, "dog", far, 500, 0},
		"now FlyMaxTick":                     {three, "dog", far, 10000, 0},
		"beside somebody who is gone":        {three, "dog", lane(1, 14, 15), 0, 0},
		"1: a book that is not ok":           {otherBook(func(b *impl.LinkBook) { b.Last = 1 }), "bee", far, 0, 1},
		"1: two of the name":                 {bookOf(9, holds("a", 1, lane(1, 5, 6)), holds("a", 2, lane(5, 5, 6))), "a", far, 0, 1},
		"1: too many":                        {manyHold(9), "a", lane(1, 100, 101), 0, 1},
		"1: now below 0":                     {b, "bee", far, -1, 1},
		"1: now past FlyMaxTick":             {b, "bee", far, 10001, 1},
		"1: now at the least":                {b, "bee", far, math.MinInt, 1},
		"1: now at the greatest":             {b, "bee", far, math.MaxInt, 1},
		"2: no flight":                       {b, "bee", noFlight(), 0, 2},
		"2: nothing":                         {b, "bee", impl.FlyPath{}, 0, 2},
		"2: not ok":                          {b, "bee", zigzag(41), 0, 2},
		"6: a name that nobody has":          {b, "cat", far, 0, 6},
		"6: a name that is none":             {b, "Bee", far, 0, 6},
		"6: no name":                         {b, "", far, 0, 6},
		"6: the beginning of a name":         {b, "be", far, 0, 6},
		"6: nobody there":                    {impl.LinkBook{}, "bee", far, 0, 6},
		"7: one who was sent something":      {b, "ant", far, 0, 7},
		"7: what was sent, once more":        {b, "ant", lane(2, 5, 8), 0, 7},
		"7: what it holds":                   {b, "ant", lane(1, 5, 6), 0, 7},
		"4: no number left":                  {lastNumber(b), "bee", far, 0, 4},
		"5: somebody else's Path":            {three, "bee", lane(3, 5, 6), 0, 5},
		"5: somebody else's Next":            {b, "bee", lane(3, 5, 6), 0, 5},
		"5: somebody's Path and one's own":   {bookOf(9, holds("a", 1, lane(1, 5, 6)), holds("b", 2, lane(3, 5, 6))), "a", lane(2, 5, 6), 0, 5},
		"5: up to the last tick of a Path":   {three, "bee", lane(3, 10, 12), 11, 5},
		"0: behind the last tick of a Path":  {three, "bee", lane(3, 10, 12), 12, 0},
		"1, not 2":                           {otherBook(func(b *impl.LinkBook) { b.Last = 1 }), "bee", noFlight(), 0, 1},
		"1, not 6":                           {otherBook(func(b *impl.LinkBook) { b.Last = 1 }), "cat", far, 0, 1},
		"1, not 7":                           {otherBook(func(b *impl.LinkBook) { b.Last = 1 }), "ant", far, 0, 1},
		"1, not 4":                           {bookOf(1000000, holds("a", 0, far)), "a", far, 0, 1},
		"1, not 5":                           {otherBook(func(b *impl.LinkBook) { b.Last = 1 }), "bee", lane(3, 5, 6), 0, 1},
		"2, not 6":                           {b, "cat", noFlight(), 0, 2},
		"2, not 7":                           {b, "ant", noFlight(), 0, 2},
		"2, not 4":                           {lastNumber(b), "bee", noFlight(), 0, 2},
		"6, not 4":                           {lastNumber(b), "cat", far, 0, 6},
		"6, not 5":                           {b, "cat", lane(1, 5, 6), 0, 6},
		"7, not 4":                           {lastNumber(b), "ant", far, 0, 7},
		"7, not 5":                           {b, "ant", lane(6, 5, 6), 0, 7},
		"4, not 5":                           {lastNumber(b), "bee", lane(3, 5, 6), 0, 4},
		"nothing at all":                     {impl.LinkBook{}, "", impl.FlyPath{}, 0, 2},
		"to one of eight":                    {fullBook(), "d", lane(6, 5, 9), 0, 0},
	} {
		wantSend(t, name, c)
	}
}

// fullBook is an ok book of eight, to none of whom anything was sent.
func fullBook() impl.LinkBook {
	b := manyHold(8)
	for place := range b.Held {
		b.Held[place].Sent, b.Held[place].Next = 0, impl.FlyPath{}
	}
	return b
}

// plainFileCode and plainSendCode say chapter 24 once more, code by code, in
// the order in which they stand there.
func plainFileCode(b impl.LinkBook, name string, p impl.FlyPath, now int) int {
	taken := slices.ContainsFunc(b.Held, func(h impl.LinkHeld) bool { return h.Name == name })
	switch {
	case !plainBookOk(b, now):
		return 1
	case !plainName(name) || !plainWaits(p, now):
		return 2
	case taken:
		return 3
	case b.Last == 1000000 || len(b.Held) == 8:
		return 4
	case !plainFree(b, name, p, now):
		return 5
	}
	return 0
}

func plainSendCode(b impl.LinkBook, name string, p impl.FlyPath, now int) int {
	of := slices.DeleteFunc(slices.Clone(b.Held), func(h impl.LinkHeld) bool { return h.Name != name })
	switch {
	case !plainBookOk(b, now):
		return 1
	case !anyFlight(p):
		return 2
	case len(of) == 0:
		return 6
	case of[0].Sent > 0:
		return 7
	case b.Last == 1000000:
		return 4
	case !plainFree(b, name, p, now):
		return 5
	}
	return 0
}

// plainWaits says whether there is a flight along a path whose first tick is
// behind this one, which is one from 0 to FlyMaxTick.
func plainWaits(p impl.FlyPath, now int) bool {
	return plainPathOk(p) && anyFlight(withStep(p, 0, func(s *impl.FlyStep) { s.From = max(s.From, now+1) }))
}

func TestLinkFileAndLinkSendOfManyBooks(t *testing.T) {
	files, sends := map[int]int{}, map[int]int{}
	someBooks(6000, 11, func(b impl.LinkBook, roll func(int) int) {
		for range 3 {
			now := roll(24) - 1
			name := []string{"a", "b", "bb", "c", "d", "e", "-", "K"}[roll(8)]
			p := someLane(roll, roll(16))
			file := handCase{b, name, p, now, plainFileCode(b, name, p, now)}
			wantFile(t, "a book", file)
			files[file.code]++
			send := handCase{b, name, p, now, plainSendCode(b, name, p, now)}
			wantSend(t, "a book", send)
			sends[send.code]++
		}
	})
	for _, code := range []int{0, 1, 2, 3, 4, 5} {
		if files[code] < 50 {
			t.Errorf("files: %v", files)
		}
	}
	for _, code := range []int{0, 1, 2, 4, 5, 6, 7} {
		if sends[code] < 50 {
			t.Errorf("sends: %v", sends)
		}
	}
}

// Promise 15: whatever is filed, sent, heard and past, the book is ok, at each
// tick from then on; and who is not asked for stays as they are.
func TestLinkBooksStayOk(t *testing.T) {
	counts := map[string]int{}
	for seed := range uint32(300) {
		roll := rolls(seed + 100)
		var b impl.LinkBook
		for now := 0; now < 40; now++ {
			for range 4 {
				name := string([]byte{byte('a' + roll(6))})
				p := someLane(roll, roll(16))
				if by := now - 6 + roll(10); by > 0 && !isEmpty(p) {
					p, _ = impl.FlyShift(p, by)
				}
				next, what := someHand(roll, b, name, p, now)
				if !impl.LinkBookOk(next, now) {
					t.Fatalf("%s of %s makes %v, which is not ok at %d, of %v", what, name, next, now, b)
				}
				if !sameOthers(b, next, name) {
					t.Fatalf("%s of %s makes %v of %v", what, name, next, b)
				}
				counts[what] += count(!sameBook(b, next))
				b = next
			}
			b = impl.LinkPast(b, now-1)
		}
	}
	for _, what := range []string{"filed", "sent", "took", "refused", "landed", "reported"} {
		if counts[what] < 100 {
			t.Errorf("%s: %d", what, counts[what])
		}
	}
}

// someHand is the book behind something that the ground does or hears of this name.
func someHand(roll func(int) int, b impl.LinkBook, name string, p impl.FlyPath, now int) (impl.LinkBook, string) {
	word := impl.LinkWord{Name: name, Number: 1 + roll(b.Last+2)}
	for _, h := range b.Held {
		if h.Name == name && roll(4) > 0 {
			word.Number = []int{h.Number, h.Sent}[roll(2)]
		}
	}
	switch roll(7) {
	case 0, 1:
		next, _, _ := impl.LinkFile(b, name, p, now)
		return next, "filed"
	case 2:
		next, _, _ := impl.LinkSend(b, name, p, now)
		return next, "sent"
	case 3:
		word.Kind = impl.LinkTook
		return impl.LinkHear(b, word), "took"
	case 4:
		word.Kind = impl.LinkRefused
		return impl.LinkHear(b, word), "refused"
	case 5:
		word.Kind = impl.LinkReport
		return impl.LinkHear(b, word), "reported"
	default:
		word.Kind = impl.LinkLanded
		return impl.LinkHear(b, word), "landed"
	}
}

// sameOthers says whether two books have the same of all but one name.
func sameOthers(a impl.LinkBook, b impl.LinkBook, name string) bool {
	of := func(h impl.LinkHeld) bool { return h.Name == name }
	return slices.EqualFunc(slices.DeleteFunc(slices.Clone(a.Held), of), slices.DeleteFunc(slices.Clone(b.Held), of), sameHeld)
}

func TestLinkFileAndLinkSendOfWildNumbers(t *testing.T) {
	some := append([]int{3, 4, 8, 9, 10, 999999, 1000000, 1000001}, wild...)
	p := lane(12, 5, 6)
	for place := range bookNumbers(&impl.LinkBook{Held: make([]impl.LinkHeld, 2)}) {
		for _, n := range some {
			for _, now := range some {
				b := twoHold()
				*bookNumbers(&b)[place] = n
				for _, name := range []string{"ant", "bee", "cat"} {
					wantFile(t, "wild", handCase{b, name, p, now, plainFileCode(b, name, p, now)})
					wantSend(t, "wild", handCase{b, name, p, now, plainSendCode(b, name, p, now)})
				}
			}
		}
	}
	for _, at := range pathNumbers() {
		for _, n := range wild {
			for place := range 3 {
				b, p := twoHold(), lane(12, 5, 6)
				*at([]*impl.FlyPath{&b.Held[0].Path, &b.Held[0].Next, &p}[place]) = n
				wantFile(t, "wild", handCase{b, "cat", p, 5, plainFileCode(b, "cat", p, 5)})
				wantSend(t, "wild", handCase{b, "bee", p, 5, plainSendCode(b, "bee", p, 5)})
			}
		}
	}
}

func TestLinkAgain(t *testing.T) {
	next, other := lane(2, 5, 8), lane(9, 1, 2)
	none := impl.FlyPath{}
	said := func(name string, number int, path impl.FlyPath) impl.LinkWord {
		return impl.LinkWord{Kind: 2, Name: name, Number: number, Path: path}
	}
	for name, c := range map[string]struct {
		book impl.LinkBook
		name string
		word impl.LinkWord
	}{
		"what was sent":                    {twoHold(), "ant", said("ant", 4, next)},
		"nothing was sent":                 {twoHold(), "bee", impl.LinkWord{}},
		"an empty list was sent":           {bookOf(9, awaits("a", 1, other, 0, impl.FlyPath{Steps: []impl.FlyStep{}})), "a", impl.LinkWord{}},
		"nobody":                           {twoHold(), "cat", impl.LinkWord{}},
		"nobody, the beginning of a name":  {twoHold(), "an", impl.LinkWord{}},
		"nobody there":                     {impl.LinkBook{}, "ant", impl.LinkWord{}},
		"nobody there, no name":            {impl.LinkBook{}, "", impl.LinkWord{}},
		"two of the name, both sent":       {bookOf(9, awaits("a", 1, other, 3, next), awaits("a", 2, other, 4, other)), "a", said("a", 3, next)},
		"two of the name, the second sent": {bookOf(9, holds("a", 1, other), awaits("a", 2, other, 4, other)), "a", impl.LinkWord{}},
		"two of the name, the first sent":  {bookOf(9, awaits("a", 1, other, 3, next), holds("a", 2, other)), "a", said("a", 3, next)},
		"two of the name, not in a row":    {bookOf(9, holds("b", 1, other), awaits("a", 1, other, 3, next), holds("b", 1, other), holds("a", 2, other)), "a", said("a", 3, next)},
		"Sent 0 with a Next":               {bookOf(9, awaits("a", 1, other, 0, next)), "a", said("a", 0, next)},
		"Sent below 0 with a Next":         {bookOf(9, awaits("a", 1, other, -3, next)), "a", said("a", -3, next)},
		"Sent with no Next":                {bookOf(9, awaits("a", 1, other, 3, none)), "a", impl.LinkWord{}},
		"Sent equal to Number":             {bookOf(9, awaits("a", 3, other, 3, next)), "a", said("a", 3, next)},
		"Sent above Last":                  {bookOf(0, awaits("a", 3, other, 12, next)), "a", said("a", 12, next)},
		"Sent at the least":                {bookOf(9, awaits("a", 3, other, math.MinInt, next)), "a", said("a", math.MinInt, next)},
		"Sent at the greatest":             {bookOf(9, awaits("a", 3, other, math.MaxInt, next)), "a", said("a", math.MaxInt, next)},
		"a Next with no flight":            {bookOf(9, awaits("a", 1, other, 3, noFlight())), "a", said("a", 3, noFlight())},
		"a Next that is not ok":            {bookOf(9, awaits("a", 1, other, 3, zigzag(41))), "a", said("a", 3, zigzag(41))},
		"a Next with Quick alone":          {bookOf(9, awaits("a", 1, other, 3, impl.FlyPath{Kind: impl.FlyKind{Quick: 1}})), "a", said("a", 3, impl.FlyPath{Kind: impl.FlyKind{Quick: 1}})},
		"a Next with Slow alone":           {bookOf(9, awaits("a", 1, other, 3, impl.FlyPath{Kind: impl.FlyKind{Slow: 1}})), "a", said("a", 3, impl.FlyPath{Kind: impl.FlyKind{Slow: 1}})},
		"a Next with From alone":           {bookOf(9, awaits("a", 1, other, 3, impl.FlyPath{From: -1})), "a", said("a", 3, impl.FlyPath{From: -1})},
		"a Next with By alone":             {bookOf(9, awaits("a", 1, other, 3, impl.FlyPath{By: 1})), "a", said("a", 3, impl.FlyPath{By: 1})},
		"a Next with a step alone":         {bookOf(9, awaits("a", 1, other, 3, impl.FlyPath{Steps: []impl.FlyStep{{}}})), "a", said("a", 3, impl.FlyPath{Steps: []impl.FlyStep{{}}})},
		"a name that is none":              {bookOf(9, awaits("K\xff", 1, other, 3, next)), "K\xff", said("K\xff", 3, next)},
		"no name":                          {bookOf(9, awaits("", 1, other, 3, next)), "", said("", 3, next)},
		"one of nine":                      {manyHold(9), "d", said("d", 13, lane(6, 5, 7))},
		"Last past its limit":              {bookOf(math.MaxInt, awaits("a", 1, other, 3, next)), "a", said("a", 3, next)},
	} {
		word, ok := impl.LinkAgain(c.book, c.name)
		if ok != (c.word.Kind == 2) || !sameWord(word, c.word) {
			t.Errorf("%s: %v %v, not %v", name, word, ok, c.word)
		}
	}
}

// Once more is word by word what was sent.
func TestLinkAgainIsWhatWasSent(t *testing.T) {
	sent := 0
	someBooks(2000, 17, func(b impl.LinkBook, roll func(int) int) {
		name := string([]byte{byte('a' + roll(4))})
		next, word, code := impl.LinkSend(b, name, someLane(roll, roll(16)), roll(10))
		if code != 0 {
			return
		}
		sent++
		if again, ok := impl.LinkAgain(next, name); !ok || !sameWord(again, word) {
			t.Errorf("%v was sent, and then %v %v", word, again, ok)
		}
	})
	if sent < 100 {
		t.Errorf("sent: %d", sent)
	}
}

func TestLinkHandsWriteAndKeepNothing(t *testing.T) {
	for name, b := range map[string]impl.LinkBook{
		"two": twoHold(), "nobody": {}, "seven": manyHold(7), "eight": fullBook(), "nine": manyHold(9),
		"not ok": bookOf(1, awaits("ant", 3, noFlight(), 2, zigzag(41)), holds("ant", 3, noFlight())),
	} {
		for _, of := range []string{"-", "a", "ant", "bee", "cat", "h", "z", "K"} {
			for _, p := range []impl.FlyPath{lane(12, 5, 6), lane(12, 105, 106), lane(1, 5, 6), noFlight(), {}} {
				for _, now := range []int{0, 8, 10001} {
					wantOwnMemory(t, name+", filed", b, p, func(b impl.LinkBook, p impl.FlyPath) (impl.LinkBook, impl.LinkWord) {
						book, word, _ := impl.LinkFile(b, of, p, now)
						return book, word
					})
					wantOwnMemory(t, name+", sent", b, p, func(b impl.LinkBook, p impl.FlyPath) (impl.LinkBook, impl.LinkWord) {
						book, word, _ := impl.LinkSend(b, of, p, now)
						return book, word
					})
				}
			}
			wantOwnMemory(t, name+", again", b, impl.FlyPath{}, func(b impl.LinkBook, p impl.FlyPath) (impl.LinkBook, impl.LinkWord) {
				word, _ := impl.LinkAgain(b, of)
				return impl.LinkBook{}, word
			})
		}
	}
}
