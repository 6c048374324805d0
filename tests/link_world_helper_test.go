package tests

import (
	"reflect"
	"slices"

	"loop.example/laplink/impl"
)

// endsBy is a path that is left by another tick at the latest; all its steps
// are the same.
func endsBy(p impl.FlyPath, by int) impl.FlyPath {
	p.Steps = slices.Clone(p.Steps)
	p.By = by
	return p
}

// flier is an aircraft that refused nothing.
func flier(name string, number int, path impl.FlyPath, flown ...int) impl.LinkCraft {
	return impl.LinkCraft{Name: name, Number: number, Path: path, Flown: flown}
}

// say is a word without a path, sayPath one with it.
func say(kind int, name string, number int) impl.LinkWord {
	return impl.LinkWord{Kind: kind, Name: name, Number: number}
}

func sayPath(kind int, name string, number int, path impl.FlyPath) impl.LinkWord {
	return impl.LinkWord{Kind: kind, Name: name, Number: number, Path: path}
}

// reports are so many words, no two of which are the same.
func reports(count int) []impl.LinkWord {
	var words []impl.LinkWord
	for i := range count {
		words = append(words, say(impl.LinkReport, "zoo", 100+i))
	}
	return words
}

// asked is an event that asks for a place alone, byHand one that asks for a name
// and a path.
func asked(kind int, place int) impl.LinkEvent {
	return impl.LinkEvent{Kind: kind, A: place}
}

func byHand(kind int, name string, path impl.FlyPath) impl.LinkEvent {
	return impl.LinkEvent{Kind: kind, Name: name, Path: path}
}

// busy is an ok world at 6, the ground being up. ant flies in its first step,
// where it can stay until 6, and was sent another end of its path; bee waits,
// and may start at 9 to 12.
func busy() impl.LinkWorld {
	book := func() impl.LinkBook {
		return bookOf(9, awaits("ant", 2, lane(1, 5, 6), 4, endsBy(lane(1, 5, 6), 11)), holds("bee", 3, lane(6, 9, 12)))
	}
	return impl.LinkWorld{
		Now:    6,
		Ground: impl.LinkGround{Up: true, Mind: book(), Disk: book()},
		Crafts: []impl.LinkCraft{flier("ant", 2, lane(1, 5, 6), 5), flier("bee", 3, lane(6, 9, 12))},
		Radio:  []impl.LinkWord{sayPath(impl.LinkClear, "ant", 4, endsBy(lane(1, 5, 6), 11))},
	}
}

// worldWith is a world with changes, in memory of its own.
func worldWith(w impl.LinkWorld, changes ...func(w *impl.LinkWorld)) impl.LinkWorld {
	w = ownCopy(w)
	for _, change := range changes {
		if change != nil {
			change(&w)
		}
	}
	return w
}

// down lets the ground fall, whatever it was.
func down(w *impl.LinkWorld) {
	w.Ground.Up, w.Ground.Mind, w.Ground.Out = false, impl.LinkBook{}, nil
}

// busyDown is busy with the ground not up.
func busyDown() impl.LinkWorld {
	return worldWith(busy(), down)
}

// fullSky is an ok world at 0 with so many aircraft, all of which wait.
func fullSky(count int) impl.LinkWorld {
	w := impl.LinkNew()
	for i := range count {
		w.Crafts = append(w.Crafts, flier(string([]byte{byte('a' + i)}), i+1, lane(2*(i%8), 5, 6)))
	}
	return w
}

func sameGround(a impl.LinkGround, b impl.LinkGround) bool {
	return a.Up == b.Up && sameBook(a.Mind, b.Mind) && sameBook(a.Disk, b.Disk) && slices.EqualFunc(a.Out, b.Out, sameWord)
}

// sameWorld holds two worlds against each other; an empty list is the same as nil.
func sameWorld(a impl.LinkWorld, b impl.LinkWorld) bool {
	return a.Now == b.Now && sameGround(a.Ground, b.Ground) &&
		slices.EqualFunc(a.Crafts, b.Crafts, sameCraft) && slices.EqualFunc(a.Radio, b.Radio, sameWord)
}

// plainWorldOk says what chapter 25 says of a world, word by word.
func plainWorldOk(w impl.LinkWorld) bool {
	g := w.Ground
	ok := within(0, w.Now, 10000) && impl.LinkBookOk(g.Mind, w.Now) && impl.LinkBookOk(g.Disk, w.Now)
	ok = ok && len(g.Out) <= 40 && len(w.Radio) <= 40 && len(w.Crafts) <= 8
	for _, word := range append(slices.Clone(g.Out), w.Radio...) {
		ok = ok && impl.LinkWordOk(word)
	}
	if !g.Up {
		ok = ok && len(g.Mind.Held) == 0 && len(g.Out) == 0
	}
	for i, c := range w.Crafts {
		ok = ok && impl.LinkCraftOk(c, w.Now) && (i == 0 || w.Crafts[i-1].Name < c.Name)
	}
	return ok
}

// plainStep says what chapter 25 says of an event, row by row, of one aircraft
// and one word behind the other.
func plainStep(w impl.LinkWorld, e impl.LinkEvent) impl.LinkWorld {
	if !plainWorldOk(w) {
		return impl.LinkWorld{}
	}
	w = ownCopy(w)
	g := &w.Ground
	isWord, isCraft := within(0, e.A, len(w.Radio)-1), within(0, e.A, len(w.Crafts)-1)
	switch {
	case e.Kind == 1 && w.Now < 10000:
		plainTick(&w)
	case e.Kind == 2 && isCraft:
		plainMove(&w, e.A)
	case e.Kind == 3 && isWord:
		plainBring(&w, e.A)
	case e.Kind == 4 && isWord:
		plainSay(&w.Radio, w.Radio[e.A])
	case e.Kind == 5 && isWord:
		w.Radio = slices.Delete(w.Radio, e.A, e.A+1)
	case e.Kind == 6 && g.Up:
		plainFile(&w, e)
	case e.Kind == 7 && g.Up:
		if book, word, code := impl.LinkSend(g.Mind, e.Name, e.Path, w.Now); code == 0 {
			g.Mind = book
			plainSay(&g.Out, word)
		}
	case e.Kind == 8 && g.Up:
		if word, ok := impl.LinkAgain(g.Mind, e.Name); ok {
			plainSay(&g.Out, word)
		}
	case e.Kind == 9 && isCraft:
		plainSay(&w.Radio, say(5, w.Crafts[e.A].Name, w.Crafts[e.A].Number))
	case e.Kind == 10 && g.Up:
		g.Up, g.Mind, g.Out = false, impl.LinkBook{}, nil
	case e.Kind == 11 && !g.Up:
		g.Up, g.Mind = true, g.Disk
	}
	return w
}

func plainSay(list *[]impl.LinkWord, word impl.LinkWord) {
	if len(*list) < 40 {
		*list = append(*list, word)
	}
}

func plainMove(w *impl.LinkWorld, place int) {
	c, ok := impl.LinkMove(w.Crafts[place], w.Now)
	if !ok {
		return
	}
	w.Crafts[place] = c
	if len(c.Flown) == len(c.Path.Steps)+1 {
		w.Crafts = slices.Delete(w.Crafts, place, place+1)
		plainSay(&w.Radio, say(6, c.Name, c.Number))
	}
}

func plainTick(w *impl.LinkWorld) {
	w.Now++
	for place := len(w.Crafts) - 1; place >= 0; place-- {
		if impl.LinkMust(w.Crafts[place], w.Now) {
			plainMove(w, place)
		}
	}
	g := &w.Ground
	if !g.Up {
		return
	}
	g.Mind = impl.LinkPast(g.Mind, w.Now-1)
	g.Disk = g.Mind
	for _, word := range g.Out {
		if word.Kind != 1 {
			plainSay(&w.Radio, word)
			continue
		}
		c := flier(word.Name, word.Number, word.Path)
		if plainCraftAt(*w, word.Name) < 0 && impl.LinkCraftOk(c, w.Now) && len(w.Crafts) < 8 {
			w.Crafts = append(w.Crafts, c)
			slices.SortFunc(w.Crafts, func(a impl.LinkCraft, b impl.LinkCraft) int { return count(a.Name > b.Name) - count(a.Name < b.Name) })
		}
	}
	g.Out = nil
}

func plainBring(w *impl.LinkWorld, place int) {
	word := w.Radio[place]
	w.Radio = slices.Delete(w.Radio, place, place+1)
	if word.Kind != 2 {
		if w.Ground.Up {
			w.Ground.Mind = impl.LinkHear(w.Ground.Mind, word)
		}
		return
	}
	if of := plainCraftAt(*w, word.Name); of >= 0 {
		c, answer, ok := impl.LinkTake(w.Crafts[of], word, w.Now)
		if ok {
			w.Crafts[of] = c
			plainSay(&w.Radio, answer)
		}
	}
}

// plainFile files nobody with whom the world would not be ok now: promise 17.
func plainFile(w *impl.LinkWorld, e impl.LinkEvent) {
	g := &w.Ground
	book, word, code := impl.LinkFile(g.Mind, e.Name, e.Path, w.Now+1)
	if code == 0 && plainCraftAt(*w, e.Name) < 0 && len(g.Out) < 40 && impl.LinkBookOk(book, w.Now) {
		g.Mind = book
		plainSay(&g.Out, word)
	}
}

// plainCraftAt is the place of the aircraft of this name; -1 without.
func plainCraftAt(w impl.LinkWorld, name string) int {
	return slices.IndexFunc(w.Crafts, func(c impl.LinkCraft) bool { return c.Name == name })
}

// ownCopy is a thing in memory of its own.
func ownCopy[T any](thing T) T {
	return rebuilt(reflect.ValueOf(thing), func(list reflect.Value) (reflect.Value, int) {
		return list, list.Len()
	}).Interface().(T)
}

// wholeOf is a thing with its spare room told as well, in memory of its own.
func wholeOf[T any](thing T) T {
	return rebuilt(reflect.ValueOf(thing), func(list reflect.Value) (reflect.Value, int) {
		return list.Slice(0, list.Cap()), list.Cap()
	}).Interface().(T)
}

// roomy is a thing with spare room behind each of its lists, in which something
// stands, in memory of its own.
func roomy[T any](thing T) T {
	return rebuilt(reflect.ValueOf(thing), func(list reflect.Value) (reflect.Value, int) {
		more := reflect.New(list.Type().Elem()).Elem()
		if list.Len() > 0 {
			more = list.Index(0)
		}
		return reflect.Append(list.Slice3(0, list.Len(), list.Len()), more, more), list.Len()
	}).Interface().(T)
}

// rebuilt is a value whose lists are what a function tells of them, up to the
// size that it tells.
func rebuilt(v reflect.Value, tell func(list reflect.Value) (reflect.Value, int)) reflect.Value {
	fresh := reflect.New(v.Type()).Elem()
	switch v.Kind() {
	case reflect.Struct:
		for i := range v.NumField() {
			fresh.Field(i).Set(rebuilt(v.Field(i), tell))
		}
	case reflect.Slice:
		list, size := tell(v)
		fresh.Set(reflect.MakeSlice(v.Type(), list.Len(), list.Len()))
		for i := range list.Len() {
			fresh.Index(i).Set(rebuilt(list.Index(i), tell))
		}
		fresh.Set(fresh.Slice(0, size))
	default:
		fresh.Set(v)
	}
	return fresh
}

// numbersIn are the places of all numbers of what a pointer points to.
func numbersIn(thing any) []*int {
	var all []*int
	var look func(v reflect.Value)
	look = func(v reflect.Value) {
		switch v.Kind() {
		case reflect.Struct:
			for i := range v.NumField() {
				look(v.Field(i))
			}
		case reflect.Slice:
			for i := range v.Len() {
				look(v.Index(i))
			}
		case reflect.Int:
			all = append(all, v.Addr().Interface().(*int))
		}
	}
	look(reflect.ValueOf(thing).Elem())
	return all
}

// stretch is where a list lies in memory, its spare room included.
type stretch struct {
	from uintptr
	to   uintptr
}

// stretchesOf are those of all lists that a thing reaches, also from its spare
// room.
func stretchesOf(thing any) []stretch {
	var all []stretch
	var look func(v reflect.Value)
	look = func(v reflect.Value) {
		switch v.Kind() {
		case reflect.Struct:
			for i := range v.NumField() {
				look(v.Field(i))
			}
		case reflect.Slice:
			if v.Cap() == 0 {
				return
			}
			all = append(all, stretch{v.Pointer(), v.Pointer() + uintptr(v.Cap())*v.Type().Elem().Size()})
			for i := range v.Cap() {
				look(v.Slice(0, v.Cap()).Index(i))
			}
		}
	}
	look(reflect.ValueOf(thing))
	return all
}

// shareNone says whether no two of these overlap.
func shareNone(all []stretch) bool {
	for i, a := range all {
		for _, b := range all[:i] {
			if a.from < b.to && b.from < a.to {
				return false
			}
		}
	}
	return true
}
