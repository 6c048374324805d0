package tests

import (
	"math"
	"reflect"
	"slices"
	"strings"
	"testing"

	"loop.example/laplink/impl"
)

// wordOf is a word to or from the aircraft of the tests below, in memory of its own.
func wordOf(kind int, number int, path impl.FlyPath) impl.LinkWord {
	path.Steps = slices.Clone(path.Steps)
	return impl.LinkWord{Kind: kind, Name: "kite", Number: number, Path: path}
}

// sameWord holds two words against each other; no steps are the same as nil.
func sameWord(a impl.LinkWord, b impl.LinkWord) bool {
	return a.Kind == b.Kind && a.Name == b.Name && a.Number == b.Number && samePath(a.Path, b.Path)
}

// noFlight is an ok path along which there is no flight.
func noFlight() impl.FlyPath {
	return changed(func(p *impl.FlyPath) { p.From, p.By = 0, 18 })
}

func isEmpty(p impl.FlyPath) bool {
	return p.Kind.Quick == 0 && p.Kind.Slow == 0 && len(p.Steps) == 0 && p.From == 0 && p.By == 0
}

// plainWordOk says chapter 21 once more, word by word.
func plainWordOk(w impl.LinkWord) bool {
	fits := isEmpty(w.Path)
	if w.Kind <= 2 {
		fits = anyFlight(w.Path)
	}
	return within(1, w.Kind, 6) && plainName(w.Name) && within(1, w.Number, 1000000) && fits
}

func TestLinkWordNumbers(t *testing.T) {
	kinds := []int{impl.LinkFiled, impl.LinkClear, impl.LinkTook, impl.LinkRefused, impl.LinkReport, impl.LinkLanded}
	if !slices.Equal(kinds, []int{1, 2, 3, 4, 5, 6}) || impl.LinkMaxNumber != 1000000 {
		t.Errorf("kinds %v, numbers up to %d", kinds, impl.LinkMaxNumber)
	}
}

func TestLinkWordOkOfEachKindAndPath(t *testing.T) {
	paths := map[string]struct {
		path   impl.FlyPath
		flown  bool
		absent bool
	}{
		"nothing":              {impl.FlyPath{}, false, true},
		"an empty list":        {impl.FlyPath{Steps: []impl.FlyStep{}}, false, true},
		"with a flight":        {threeSteps(), true, false},
		"of one step":          {oneStep(2, 4, spanOf(5, 9), spanOf(0, 12), false), true, false},
		"of forty steps":       {zigzag(40), true, false},
		"of 41 steps":          {zigzag(41), false, false},
		"with no flight":       {noFlight(), false, false},
		"not ok":               {changed(func(p *impl.FlyPath) { p.By = 10001 }), false, false},
		"without steps":        {changed(func(p *impl.FlyPath) { p.Steps = nil }), false, false},
		"Quick alone":          {impl.FlyPath{Kind: impl.FlyKind{Quick: 1}}, false, false},
		"Slow alone":           {impl.FlyPath{Kind: impl.FlyKind{Slow: 1}}, false, false},
		"From alone":           {impl.FlyPath{From: 1}, false, false},
		"By alone":             {impl.FlyPath{By: 1}, false, false},
		"By below 0 alone":     {impl.FlyPath{By: -1}, false, false},
		"a step alone":         {impl.FlyPath{Steps: []impl.FlyStep{{}}}, false, false},
		"a step, and its kind": {oneStep(1, 1, spanOf(0, 0), spanOf(0, 0), true), false, false},
	}
	for name, c := range paths {
		for kind := -1; kind <= 8; kind++ {
			want := false
			if kind == 1 || kind == 2 {
				want = c.flown
			}
			if kind >= 3 && kind <= 6 {
				want = c.absent
			}
			if got := impl.LinkWordOk(wordOf(kind, 1, c.path)); got != want {
				t.Errorf("kind %d, a path that is %s: %v", kind, name, got)
			}
		}
	}
}

func TestLinkWordOkOfNumbersAndNames(t *testing.T) {
	for kind := 1; kind <= 6; kind++ {
		path := impl.FlyPath{}
		if kind <= 2 {
			path = threeSteps()
		}
		for _, n := range []int{math.MinInt, -1, 0, 1, 2, 999999, 1000000, 1000001, math.MaxInt} {
			if got := impl.LinkWordOk(wordOf(kind, n, path)); got != within(1, n, 1000000) {
				t.Errorf("kind %d, number %d: %v", kind, n, got)
			}
		}
		names := []string{"", "a", "z", "-", "0", "abc-0129", "abc-01290", "aB", "a b", "a ", "ä", "ääää", "\xff", "a\x00", "a\ufffd", strings.Repeat("a", 1000)}
		for code := range 256 {
			names = append(names, string([]byte{byte(code)}), "ab"+string([]byte{byte(code)})+"d")
		}
		for _, name := range names {
			w := wordOf(kind, 1, path)
			w.Name = name
			if got := impl.LinkWordOk(w); got != plainName(name) {
				t.Errorf("kind %d, name %q: %v", kind, name, got)
			}
		}
	}
}

func TestLinkWordOkOfWildNumbers(t *testing.T) {
	some, none := 0, 0
	try := func(w impl.LinkWord) {
		got := impl.LinkWordOk(w)
		if want := plainWordOk(w); got != want {
			t.Errorf("%v: %v", w, got)
		}
		if got {
			some++
		} else {
			none++
		}
	}
	for _, kind := range wild {
		for _, number := range wild {
			try(wordOf(kind, number, threeSteps()))
			try(wordOf(kind, number, impl.FlyPath{}))
		}
	}
	for _, at := range pathNumbers() {
		for _, n := range wild {
			for kind := range 8 {
				w := wordOf(kind, 3, threeSteps())
				*at(&w.Path) = n
				try(w)
			}
		}
	}
	if some < 50 || none < 50 {
		t.Errorf("ok: %d, not: %d", some, none)
	}
}

func TestLinkWordOkWritesNothing(t *testing.T) {
	room := append(threeSteps().Steps, impl.FlyStep{X: 9}, impl.FlyStep{X: 8})
	kept := slices.Clone(room)
	for kind := range 8 {
		w := wordOf(kind, 1, threeSteps())
		w.Path.Steps = room[:3]
		impl.LinkWordOk(w)
	}
	if !reflect.DeepEqual(room, kept) {
		t.Errorf("steps are %v", room)
	}
}
