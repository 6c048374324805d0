package tests

import (
	"math"
	"reflect"
	"slices"
	"testing"

	"loop.example/laplink/impl"
)

// clearOf is a clearance of a path to the aircraft of craftOf, whose number is 7.
func clearOf(number int, path impl.FlyPath) impl.LinkWord {
	return wordOf(impl.LinkClear, number, path)
}

// otherFirst shares with threeSteps its second and third step alone.
func otherFirst() impl.FlyPath {
	return changed(func(p *impl.FlyPath) { p.Steps[0].By = 19 })
}

// takeCase is what an aircraft answers to a word; no kind: nothing.
type takeCase struct {
	craft  impl.LinkCraft
	word   impl.LinkWord
	now    int
	answer int
}

// behind is the aircraft as it is behind the answer that the case says.
func (c takeCase) behind() impl.LinkCraft {
	want := c.craft
	if c.answer == impl.LinkTook && c.word.Number != c.craft.Number {
		want.Number, want.Path = c.word.Number, c.word.Path
	}
	if c.answer == impl.LinkRefused {
		want.No = max(want.No, c.word.Number)
	}
	return want
}

// wantTake holds LinkTake against a case.
func wantTake(t *testing.T, name string, c takeCase) {
	t.Helper()
	answer := impl.LinkWord{}
	if c.answer != 0 {
		answer = impl.LinkWord{Kind: c.answer, Name: c.craft.Name, Number: c.word.Number}
	}
	got, said, ok := impl.LinkTake(c.craft, c.word, c.now)
	if ok != (c.answer != 0) || !sameWord(said, answer) || !sameCraft(got, c.behind()) {
		t.Errorf("%s: %v, %v %v, not %v, %v", name, got, said, ok, c.behind(), answer)
	}
	if ok && !impl.LinkWordOk(said) {
		t.Errorf("%s: the answer %v is not ok", name, said)
	}
}

func TestLinkTakeByNumber(t *testing.T) {
	const none, took, refused = 0, impl.LinkTook, impl.LinkRefused
	with := func(no int, flown ...int) impl.LinkCraft {
		return otherCraft(func(c *impl.LinkCraft) { c.No = no }, flown...)
	}
	for _, flown := range [][]int{nil, {10}} {
		for name, c := range map[string]takeCase{
			"its own number":                       {with(0, flown...), clearOf(7, threeSteps()), 12, took},
			"its own number, another path":         {with(0, flown...), clearOf(7, otherEnd()), 12, took},
			"its own number, one it could not":     {with(0, flown...), clearOf(7, oneStep(1, 1, spanOf(3, 3), spanOf(4, 4), false)), 12, took},
			"its own number, below No":             {with(9, flown...), clearOf(7, otherEnd()), 12, took},
			"one less":                             {with(0, flown...), clearOf(6, otherEnd()), 12, none},
			"one less, which it refused":           {with(6, flown...), clearOf(6, otherEnd()), 12, none},
			"number 1":                             {with(0, flown...), clearOf(1, otherEnd()), 12, none},
			"one more":                             {with(0, flown...), clearOf(8, otherEnd()), 12, took},
			"one more, behind a lesser No":         {with(6, flown...), clearOf(8, otherEnd()), 12, took},
			"the greatest number":                  {with(0, flown...), clearOf(1000000, otherEnd()), 12, took},
			"one past it":                          {with(0, flown...), clearOf(1000001, otherEnd()), 12, none},
			"equal to No":                          {with(9, flown...), clearOf(9, otherEnd()), 12, refused},
			"one below No":                         {with(9, flown...), clearOf(8, otherEnd()), 12, refused},
			"one above No":                         {with(9, flown...), clearOf(10, otherEnd()), 12, took},
			"one above No, one it can't":           {with(9, flown...), clearOf(10, lateOnly()), 12, refused},
			"No the greatest":                      {with(1000000, flown...), clearOf(1000000, otherEnd()), 12, refused},
			"below No, one it can't":               {with(9, flown...), clearOf(8, lateOnly()), 12, refused},
			"the same path under another number":   {with(0, flown...), clearOf(8, threeSteps()), 12, took},
			"0":                                    {with(0, flown...), clearOf(0, otherEnd()), 12, none},
			"at the least":                         {with(0, flown...), clearOf(math.MinInt, otherEnd()), 12, none},
			"at the greatest":                      {with(0, flown...), clearOf(math.MaxInt, otherEnd()), 12, none},
			"No equal to Number: it is not ok":     {with(7, flown...), clearOf(8, otherEnd()), 12, none},
			"No below 0: it is not ok":             {with(-1, flown...), clearOf(8, otherEnd()), 12, none},
			"No past the greatest: it is not ok":   {with(1000001, flown...), clearOf(8, otherEnd()), 12, none},
			"now below 0":                          {with(0, flown...), clearOf(8, otherEnd()), -1, none},
			"now past FlyMaxTick":                  {with(0, flown...), clearOf(8, otherEnd()), 10001, none},
			"now at the least":                     {with(0, flown...), clearOf(7, otherEnd()), math.MinInt, none},
			"now at the greatest":                  {with(0, flown...), clearOf(7, otherEnd()), math.MaxInt, none},
			"it can't stay: it is not ok":          {with(0, flown...), clearOf(8, otherEnd()), 20, none},
			"its own number, when it can't stay":   {with(0, flown...), clearOf(7, threeSteps()), 20, none},
			"a number it refused, can't stay":      {with(8, flown...), clearOf(8, threeSteps()), 20, none},
			"a path that is nothing":               {with(0, flown...), clearOf(8, impl.FlyPath{}), 12, none},
			"its own number, nothing":              {with(0, flown...), clearOf(7, impl.FlyPath{}), 12, none},
			"a path with no flight":                {with(0, flown...), clearOf(8, noFlight()), 12, none},
			"a path with no flight, below No":      {with(9, flown...), clearOf(8, noFlight()), 12, none},
			"a path that is not ok":                {with(0, flown...), clearOf(8, changed(func(p *impl.FlyPath) { p.By = 10001 })), 12, none},
			"a path of 41 steps":                   {with(0, flown...), clearOf(8, zigzag(41)), 12, none},
			"its own number, a path not ok":        {with(0, flown...), clearOf(7, zigzag(41)), 12, none},
			"a LinkFiled":                          {with(0, flown...), wordOf(impl.LinkFiled, 8, otherEnd()), 12, none},
			"a LinkFiled under its number":         {with(0, flown...), wordOf(impl.LinkFiled, 7, otherEnd()), 12, none},
			"a LinkTook":                           {with(0, flown...), wordOf(impl.LinkTook, 7, impl.FlyPath{}), 12, none},
			"a LinkRefused":                        {with(0, flown...), wordOf(impl.LinkRefused, 8, impl.FlyPath{}), 12, none},
			"a LinkReport":                         {with(0, flown...), wordOf(impl.LinkReport, 7, impl.FlyPath{}), 12, none},
			"a LinkLanded":                         {with(0, flown...), wordOf(impl.LinkLanded, 7, impl.FlyPath{}), 12, none},
			"a kind that there is not":             {with(0, flown...), wordOf(7, 8, otherEnd()), 12, none},
			"kind 0":                               {with(0, flown...), wordOf(0, 8, otherEnd()), 12, none},
			"nothing":                              {with(0, flown...), impl.LinkWord{}, 12, none},
			"nothing, to nobody":                   {impl.LinkCraft{}, impl.LinkWord{}, 12, none},
			"an aircraft that is nothing":          {impl.LinkCraft{}, clearOf(8, otherEnd()), 12, none},
			"an aircraft without a number":         {otherCraft(func(c *impl.LinkCraft) { c.Number = 0 }, flown...), clearOf(8, otherEnd()), 12, none},
			"an aircraft, its number too great":    {otherCraft(func(c *impl.LinkCraft) { c.Number = 1000001 }, flown...), clearOf(1000001, otherEnd()), 12, none},
			"an aircraft without a path":           {onPath(impl.FlyPath{}, flown...), clearOf(8, otherEnd()), 12, none},
			"an aircraft, no flight along its own": {onPath(noFlight(), flown...), clearOf(8, otherEnd()), 12, none},
		} {
			wantTake(t, name, c)
		}
	}
}

// lateOnly is a path that nobody of craftOf can go on along: one who waits at
// 12 is too late for it, and its first step is another one.
func lateOnly() impl.FlyPath {
	return oneStep(1, 4, spanOf(5, 12), spanOf(0, 20), false)
}

func TestLinkTakeByNames(t *testing.T) {
	for _, name := range []string{"kite", "kit", "kites", "kitf", "a", "", "Kite", "kite ", "k\xff"} {
		for _, other := range []string{"kite", "kites", "", "Kite"} {
			c := takeCase{otherCraft(func(c *impl.LinkCraft) { c.Name = name }), clearOf(8, otherEnd()), 12, 0}
			c.word.Name = other
			if plainName(name) && name == other {
				c.answer = impl.LinkTook
			}
			wantTake(t, name+" and "+other, c)
		}
	}
}

func TestLinkTakeByPath(t *testing.T) {
	const none, took, refused = 0, impl.LinkTook, impl.LinkRefused
	// From its middle step on it is flown by nobody who entered that late.
	early := changed(func(p *impl.FlyPath) {
		p.Steps[2] = impl.FlyStep{X: 6, Y: 5, Low: 3, High: 4, From: 15, By: 22}
		p.By = 25
	})
	otherKind := changed(func(p *impl.FlyPath) { p.Kind.Slow = 6 })
	otherSecond := withStep(threeSteps(), 1, func(s *impl.FlyStep) { s.Low = 1 })
	short := changed(func(p *impl.FlyPath) { p.Steps, p.From, p.By = p.Steps[:2], 0, 40 })
	firstOnly := changed(func(p *impl.FlyPath) { p.Steps, p.From, p.By = p.Steps[:1], 0, 40 })
	long := changed(func(p *impl.FlyPath) {
		p.Steps = append(p.Steps, impl.FlyStep{X: 6, Y: 5, Low: 4, High: 4, From: 20, By: 63})
		p.By = 80
	})
	for name, c := range map[string]takeCase{
		"waits, another path":                  {craftOf(), clearOf(8, otherFirst()), 12, took},
		"waits, a path elsewhere":              {craftOf(), clearOf(8, zigzag(3)), 12, took},
		"waits, another kind":                  {craftOf(), clearOf(8, otherKind), 12, took},
		"waits, last tick for the other":       {craftOf(), clearOf(8, otherFirst()), 18, took},
		"waits, too late for the other":        {craftOf(), clearOf(8, otherFirst()), 19, refused},
		"waits, last tick for both":            {craftOf(), clearOf(8, otherEnd()), 19, took},
		"waits, its own is over":               {craftOf(), clearOf(8, zigzag(3)), 20, none},
		"waits, at 0":                          {craftOf(), clearOf(8, otherEnd()), 0, took},
		"waits, for one that is past":          {craftOf(), clearOf(8, lateOnly()), 12, refused},
		"waits, for one just not past":         {craftOf(), clearOf(8, lateOnly()), 11, took},
		"first, one step shared":               {craftOf(10), clearOf(8, otherSecond), 12, took},
		"first, two steps shared":              {craftOf(10), clearOf(8, otherEnd()), 12, took},
		"first, no step shared":                {craftOf(10), clearOf(8, otherFirst()), 12, refused},
		"first, all shared":                    {craftOf(10), clearOf(8, earlyEnd()), 12, took},
		"first, another kind":                  {craftOf(10), clearOf(8, otherKind), 12, refused},
		"first, the other ends there":          {craftOf(10), clearOf(8, firstOnly), 12, took},
		"first, at the last tick":              {craftOf(10), clearOf(8, otherEnd()), 14, took},
		"first, one tick later: it is not ok":  {craftOf(10), clearOf(8, otherEnd()), 15, none},
		"first, it could not stay":             {craftOf(20), clearOf(8, early), 20, refused},
		"first, it could just stay":            {craftOf(16), clearOf(8, early), 18, took},
		"first, entered a tick too late":       {craftOf(17), clearOf(8, early), 18, refused},
		"middle, just two steps shared":        {craftOf(10, 13), clearOf(8, otherEnd()), 20, took},
		"middle, one step shared":              {craftOf(10, 13), clearOf(8, otherSecond), 20, refused},
		"middle, none shared":                  {craftOf(10, 13), clearOf(8, otherFirst()), 20, refused},
		"middle, three shared":                 {craftOf(10, 13), clearOf(8, earlyEnd()), 20, took},
		"middle, the other ends there":         {craftOf(10, 13), clearOf(8, short), 20, took},
		"middle, the other ends ahead":         {craftOf(10, 13), clearOf(8, firstOnly), 20, refused},
		"middle, the other's last tick":        {craftOf(10, 13), clearOf(8, otherEnd()), 39, took},
		"middle, one tick later":               {craftOf(10, 13), clearOf(8, otherEnd()), 40, refused},
		"middle, at its own last tick":         {craftOf(10, 13), clearOf(8, lateEnd()), 59, took},
		"middle, one tick later: it is not ok": {craftOf(10, 13), clearOf(8, lateEnd()), 60, none},
		"middle, entered above now":            {craftOf(10, 13), clearOf(8, lateEnd()), 12, none},
		"middle, at its entry":                 {craftOf(10, 13), clearOf(8, lateEnd()), 13, took},
		"last, all three shared":               {craftOf(10, 13, 26), clearOf(8, earlyEnd()), 28, took},
		"last, the other is longer":            {craftOf(10, 13, 26), clearOf(8, long), 28, took},
		"last, two shared":                     {craftOf(10, 13, 26), clearOf(8, otherEnd()), 28, refused},
		"last, the other ends ahead":           {craftOf(10, 13, 26), clearOf(8, short), 28, refused},
		"last, too late for the other":         {craftOf(10, 13, 28), clearOf(8, earlyEnd()), 28, refused},
		"last, just in time for the other":     {craftOf(10, 13, 27), clearOf(8, earlyEnd()), 29, took},
		"last, too early for the other":        {craftOf(10, 13, 24), clearOf(8, lateEnd()), 25, refused},
		"last, just late enough":               {craftOf(10, 13, 25), clearOf(8, lateEnd()), 25, took},
		"landed":                               {craftOf(10, 13, 26, 29), clearOf(8, earlyEnd()), 29, none},
		"flown no flight":                      {craftOf(10, 12), clearOf(8, earlyEnd()), 20, none},
		"the last of forty":                    {onPath(zigzag(40), ticksUp(9960, 40)...), clearOf(8, zigzag(40)), 9999, took},
		"at FlyMaxTick":                        {onPath(allTicks(), 5), clearOf(8, allTicks()), 10000, none},
		"one tick ahead of FlyMaxTick":         {onPath(allTicks(), 5), clearOf(8, allTicks()), 9999, took},
	} {
		wantTake(t, name, c)
	}
}

// The same word once more, and a refused number once more, with another path.
func TestLinkTakeOnceMore(t *testing.T) {
	c := craftOf(10, 13)
	took, said, _ := impl.LinkTake(c, clearOf(8, otherEnd()), 20)
	for _, now := range []int{20, 21, 39} {
		again, same, ok := impl.LinkTake(took, clearOf(8, otherEnd()), now)
		if !ok || !sameCraft(again, took) || !sameWord(said, same) || same.Kind != impl.LinkTook {
			t.Errorf("taken, and again at %d: %v %v %v", now, again, same, ok)
		}
	}
	late, said, _ := impl.LinkTake(c, clearOf(9, otherEnd()), 40)
	for _, path := range []impl.FlyPath{otherEnd(), threeSteps(), lateEnd()} {
		for _, number := range []int{9, 8} {
			for _, now := range []int{20, 40, 59} {
				again, no, ok := impl.LinkTake(late, clearOf(number, path), now)
				if !ok || !sameCraft(again, late) || no.Kind != impl.LinkRefused || no.Number != number {
					t.Errorf("refused as %v, and %d at %d: %v %v %v", said, number, now, again, no, ok)
				}
			}
		}
	}
	wantTake(t, "a greater number", takeCase{late, clearOf(10, lateEnd()), 40, impl.LinkTook})
	// What it held when it refused is no matter behind that.
	newer, _, _ := impl.LinkTake(late, clearOf(10, lateEnd()), 40)
	if newer.No != 9 || newer.Number != 10 {
		t.Errorf("%v", newer)
	}
	wantTake(t, "the refused one, behind a greater", takeCase{newer, clearOf(9, lateEnd()), 40, 0})
}

// plainTake says LinkTake once more: what is answered, of an aircraft whose
// path has these flights, to a word whose path has those.
func plainTake(c impl.LinkCraft, flights [][]int, w impl.LinkWord, others [][]int, now int) int {
	hears := plainCraftOk(c, now, flights) && plainWordOk(w) && w.Kind == 2 && w.Name == c.Name && w.Number >= c.Number
	goes := plainStays(w.Path, others, c.Flown, now)
	goes = goes && (len(c.Flown) == 0 || plainShared(c.Path, w.Path) > len(c.Flown)-1)
	switch {
	case !hears:
		return 0
	case w.Number == c.Number || w.Number > c.No && goes:
		return impl.LinkTook
	default:
		return impl.LinkRefused
	}
}

// Promise 13: what is taken can be flown from where the aircraft is.
func TestLinkTakeOfManyPairs(t *testing.T) {
	counts := map[int]int{}
	pathPairs(600, func(pair plainTurn) {
		others := plainFlights(pair.q, nil)
		for _, flown := range someFlown(pair.flights, len(pair.p.Steps)) {
			for now := 0; now <= 14; now += 2 {
				for _, number := range []int{6, 7, 8, 9} {
					c := otherCraft(func(c *impl.LinkCraft) { c.Path, c.No = pair.p, 8 }, flown...)
					want := takeCase{c, clearOf(number, pair.q), now, 0}
					want.answer = plainTake(c, pair.flights, want.word, others, now)
					wantTake(t, "a pair", want)
					counts[want.answer]++
					got, said, _ := impl.LinkTake(c, want.word, now)
					if said.Kind != 0 && !impl.LinkCraftOk(got, now) {
						t.Errorf("%v took %v at %d and is not ok", c, want.word, now)
					}
					if said.Kind == impl.LinkTook && number > 7 && len(plainNext(others, flown)) == 0 {
						t.Errorf("%v took %v at %d, along which none has begun so", c, want.word, now)
					}
				}
			}
		}
	})
	if min(counts[0], counts[impl.LinkTook], counts[impl.LinkRefused]) < 1000 {
		t.Errorf("%v", counts)
	}
}

// Promise 13: along a whole flight, words come in any order, again and again;
// what was refused once is never taken, and the same word is answered alike.
func TestLinkTakeNeverTakesWhatItRefused(t *testing.T) {
	dice := uint32(3)
	roll := func(below int) int {
		dice = dice*1664525 + 1013904223
		return int(dice>>16) % below
	}
	again, both := map[int]int{}, 0
	for range 3000 {
		paths := []impl.FlyPath{threeSteps(), otherEnd(), earlyEnd(), lateEnd(), otherFirst(), lateOnly(), zigzag(3)}
		c := craftOf()
		c.Number = 1
		given := map[int]impl.LinkWord{}
		for number := 2; number < 9; number++ {
			given[number] = clearOf(number, paths[roll(len(paths))])
		}
		said := map[int]impl.LinkWord{}
		for now := 5; impl.LinkCraftOk(c, now); now++ {
			for range roll(3) {
				number := 2 + roll(7)
				behind, answer, ok := impl.LinkTake(c, given[number], now)
				if !ok {
					continue
				}
				if before, heard := said[number]; heard {
					again[answer.Kind]++
					if !sameWord(before, answer) {
						t.Fatalf("%v to %v at %d, but %v ahead of that", answer, given[number], now, before)
					}
				}
				said[number], c = answer, behind
			}
			if moved, ok := impl.LinkMove(c, now+1); ok && (roll(6) == 0 || impl.LinkMust(c, now+1)) {
				c = moved
			}
		}
		both += count(len(said) > 1)
	}
	if min(again[impl.LinkTook], again[impl.LinkRefused], both) < 500 {
		t.Errorf("heard again: %v, more than one answered: %d", again, both)
	}
}

func TestLinkTakeOfWildNumbers(t *testing.T) {
	path := withStep(threeSteps(), 1, func(s *impl.FlyStep) { s.Hold = false })
	flights := plainFlights(path, nil)
	flown := []int{10, 13, 16}
	for size := range 4 {
		now := []int{12, 12, 14, 18}[size]
		for _, n := range wild {
			for _, m := range wild {
				for place := range size + 2 {
					c := onPath(path, slices.Clone(flown[:size])...)
					*craftNumbers(&c)[place] = n
					for name, k := range map[string]takeCase{
						"number": {c, clearOf(m, path), now, 0},
						"kind":   {c, wordOf(m, 8, path), now, 0},
						"now":    {c, clearOf(8, path), m, 0},
					} {
						k.answer = plainTake(k.craft, flights, k.word, flights, k.now)
						wantTake(t, name, k)
					}
				}
			}
		}
	}
}

func TestLinkTakeOfWildPaths(t *testing.T) {
	for name, at := range pathNumbers() {
		for _, n := range wild {
			for size, now := range []int{12, 12, 20, 20} {
				flown := []int{10, 13, 16}[:size]
				word := clearOf(8, threeSteps())
				*at(&word.Path) = n
				got, said, ok := impl.LinkTake(craftOf(flown...), word, now)
				if ok != anyFlight(word.Path) || !ok && (!sameCraft(got, craftOf(flown...)) || !sameWord(said, impl.LinkWord{})) {
					t.Errorf("%s of a word is %d: %v %v %v", name, n, got, said, ok)
				}
				c := craftOf(flown...)
				*at(&c.Path) = n
				got, said, ok = impl.LinkTake(c, clearOf(8, threeSteps()), now)
				if ok != impl.LinkCraftOk(c, now) || !ok && (!sameCraft(got, c) || !sameWord(said, impl.LinkWord{})) {
					t.Errorf("%s of an aircraft is %d: %v %v %v", name, n, got, said, ok)
				}
			}
		}
	}
}

func TestLinkTakeWritesAndKeepsNothing(t *testing.T) {
	steps := append(threeSteps().Steps, impl.FlyStep{X: 9}, impl.FlyStep{X: 8})
	others := append(otherEnd().Steps, impl.FlyStep{X: 7}, impl.FlyStep{X: 6})
	flown := []int{10, 13, 16, 77, 78}
	keptSteps, keptOthers, keptFlown := slices.Clone(steps), slices.Clone(others), slices.Clone(flown)
	answers := map[int]int{}
	for size := range 4 {
		for _, number := range []int{6, 7, 8} {
			c, w := craftOf(flown[:size]...), clearOf(number, otherEnd())
			c.Path.Steps, w.Path.Steps = steps[:3], others[:3]
			now := []int{12, 12, 15, 18}[size]
			for range 2 {
				got, said, _ := impl.LinkTake(c, w, now)
				answers[said.Kind]++
				spoil(got)
				if !reflect.DeepEqual(steps, keptSteps) || !reflect.DeepEqual(others, keptOthers) || !slices.Equal(flown, keptFlown) {
					t.Fatalf("steps are %v, those of the word %v, flown %v", steps, others, flown)
				}
			}
		}
	}
	if min(answers[0], answers[impl.LinkTook], answers[impl.LinkRefused]) == 0 {
		t.Errorf("answers are %v", answers)
	}
}
