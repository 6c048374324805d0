package impl

import (
	"go/ast"
	"go/parser"
	"go/token"
	"math"
	"reflect"
	"slices"
	"testing"
)

// These tests stand beside the program, not in the folder tests, as the table of
// happenings can't be seen from there.

// knownKinds are those that the document lists, otherKinds some that it does
// not.
var (
	knownKinds = []int{1, 2, 3, 4, 5, 6, 7, 8, 9, 10, 11}
	otherKinds = []int{0, -1, -2, -11, 12, 13, 257, 1<<32 + 1, math.MinInt, math.MinInt + 1, math.MaxInt}
)

// byTable is LinkStep with the event worked out by the table alone.
func byTable(w LinkWorld, e LinkEvent) LinkWorld {
	if !LinkWorldOk(w) {
		return LinkWorld{}
	}
	scene := sceneOf(w)
	if happens, known := linkHappenings[e.Kind]; known {
		happens(scene, e)
	}
	return scene.told()
}

// calmByTable is LinkCalm, of no more rounds than it allows, with each event
// worked out by the table alone.
func calmByTable(w LinkWorld, rounds int) LinkWorld {
	for range rounds {
		w = byTable(w, LinkEvent{Kind: LinkTicks})
		for range len(w.Radio) {
			w = byTable(w, LinkEvent{Kind: LinkBrings})
		}
		for _, h := range w.Ground.Mind.Held {
			w = byTable(w, LinkEvent{Kind: LinkRepeats, Name: h.Name})
		}
	}
	return w
}

// row is a path of three steps along a row of cells, entered at from to by and
// left by end at the latest.
func row(y int, from int, by int, end int) FlyPath {
	p := FlyPath{Kind: FlyKind{Quick: 1, Slow: 2}, By: end}
	for x := range 3 {
		p.Steps = append(p.Steps, FlyStep{X: x, Y: y, By: end})
	}
	p.Steps[0].From, p.Steps[0].By = from, by
	return p
}

// manyWords is a world at 6 in which there is something to do for every event:
// ant flies and was sent another end of its path, bee waits, and words are under
// way and to be said.
func manyWords() LinkWorld {
	book := LinkBook{Last: 9, Held: []LinkHeld{
		{Name: "ant", Number: 2, Path: row(1, 5, 6, 26), Sent: 4, Next: row(1, 5, 6, 11)},
		{Name: "bee", Number: 3, Path: row(6, 9, 12, 32)},
	}}
	return LinkWorld{
		Now:    6,
		Ground: LinkGround{Up: true, Mind: book, Disk: book, Out: []LinkWord{{Kind: LinkClear, Name: "ant", Number: 4, Path: row(1, 5, 6, 11)}}},
		Crafts: []LinkCraft{{Name: "ant", Number: 2, Path: row(1, 5, 6, 26), Flown: []int{5}}, {Name: "bee", Number: 3, Path: row(6, 9, 12, 32)}},
		Radio:  []LinkWord{{Kind: LinkClear, Name: "ant", Number: 4, Path: row(1, 5, 6, 11)}, {Kind: LinkTook, Name: "ant", Number: 4}},
	}
}

// startWorlds are those from which the tests go on; the last two are not ok.
func startWorlds() []LinkWorld {
	down := manyWords()
	down.Ground = LinkGround{Disk: down.Ground.Disk}
	full := manyWords()
	for len(full.Radio) < LinkMaxRadio {
		full.Radio = append(full.Radio, LinkWord{Kind: LinkReport, Name: "ant", Number: len(full.Radio)})
	}
	full.Ground.Out = slices.Clone(full.Radio)
	late := LinkNew()
	late.Now = FlyMaxTick
	tooLate := LinkNew()
	tooLate.Now = FlyMaxTick + 1
	twice := manyWords()
	twice.Crafts[1] = twice.Crafts[0]
	return []LinkWorld{LinkNew(), {}, manyWords(), down, full, late, tooLate, twice}
}

// eventsOf are events of a kind, at each place that is there and beside them,
// and of names that fly, that do not, and that are none.
func eventsOf(kind int) []LinkEvent {
	var events []LinkEvent
	for _, place := range []int{-1, 0, 1, 2, 40} {
		events = append(events,
			LinkEvent{Kind: kind, A: place},
			LinkEvent{Kind: kind, A: place, Name: "ant", Path: row(1, 5, 6, 12)},
			LinkEvent{Kind: kind, A: place, Name: "bee", Path: row(6, 9, 12, 20)},
			LinkEvent{Kind: kind, A: place, Name: "cow", Path: row(10, 9, 12, 20)})
	}
	return events
}

// someWorlds are the worlds from which the tests start, and those to which one
// event leads from there.
func someWorlds() []LinkWorld {
	worlds := startWorlds()
	for _, w := range startWorlds() {
		for _, kind := range knownKinds {
			for _, e := range eventsOf(kind) {
				next := LinkStep(w, e)
				if !slices.ContainsFunc(worlds, func(seen LinkWorld) bool { return reflect.DeepEqual(seen, next) }) {
					worlds = append(worlds, next)
				}
			}
		}
	}
	return worlds
}

// withoutTable does something while the table is empty.
func withoutTable(do func()) {
	table := linkHappenings
	defer func() { linkHappenings = table }()
	linkHappenings = map[int]func(*linkScene, LinkEvent){}
	do()
}

func TestTheTableHasJustTheKnownKinds(t *testing.T) {
	for _, kind := range knownKinds {
		if linkHappenings[kind] == nil {
			t.Errorf("kind %d is not in the table", kind)
		}
	}
	for _, kind := range otherKinds {
		if _, known := linkHappenings[kind]; known {
			t.Errorf("kind %d is in the table", kind)
		}
	}
	if len(linkHappenings) != len(knownKinds) {
		t.Errorf("%d kinds are in the table", len(linkHappenings))
	}
}

func TestTheTableAndTheFunctionAgree(t *testing.T) {
	for _, w := range someWorlds() {
		for _, kind := range slices.Concat(knownKinds, otherKinds) {
			for _, e := range eventsOf(kind) {
				if got, want := LinkStep(w, e), byTable(w, e); !reflect.DeepEqual(got, want) {
					t.Fatalf("%+v, %+v:\n%+v by the function,\n%+v by the table", w, e, got, want)
				}
			}
		}
	}
}

func TestTheTableAndTheFunctionAgreeOnCalmRounds(t *testing.T) {
	for _, w := range someWorlds() {
		if !LinkWorldOk(w) {
			continue
		}
		for _, rounds := range []int{1, 2, 5} {
			if got, want := LinkCalm(w, rounds), calmByTable(w, rounds); !reflect.DeepEqual(got, want) {
				t.Fatalf("%+v, %d rounds:\n%+v by the function,\n%+v by the table", w, rounds, got, want)
			}
		}
	}
}

// Were there two kinds that do the same everywhere here, the table could have
// one in the place of the other, and no test would tell.
func TestKnownKindsAreToldApart(t *testing.T) {
	for _, kind := range knownKinds {
		for _, second := range slices.Concat(knownKinds, otherKinds) {
			if kind != second && !toldApart(kind, second) {
				t.Errorf("kinds %d and %d do the same", kind, second)
			}
		}
	}
}

func toldApart(kind int, second int) bool {
	for _, w := range startWorlds() {
		for _, e := range eventsOf(kind) {
			f := e
			f.Kind = second
			if !reflect.DeepEqual(LinkStep(w, e), LinkStep(w, f)) {
				return true
			}
		}
	}
	return false
}

func TestNoAnswerHangsOnTheTable(t *testing.T) {
	for _, w := range startWorlds() {
		for _, kind := range slices.Concat(knownKinds, otherKinds) {
			for _, e := range eventsOf(kind) {
				want := LinkStep(w, e)
				withoutTable(func() {
					if got := LinkStep(w, e); !reflect.DeepEqual(got, want) {
						t.Errorf("%+v, %+v: %+v without the table, %+v with it", w, e, got, want)
					}
				})
			}
		}
		want := LinkCalm(w, 5)
		withoutTable(func() {
			if got := LinkCalm(w, 5); !reflect.DeepEqual(got, want) {
				t.Errorf("%+v, five rounds: %+v without the table, %+v with it", w, got, want)
			}
		})
	}
}

// The document asks for a table that an init function fills, and the language
// for one that an exported function reads.
func TestTheTableIsFilledByInitAndReadByAnExportedFunction(t *testing.T) {
	file, err := parser.ParseFile(token.NewFileSet(), "l25_world.go", nil, parser.SkipObjectResolution)
	if err != nil {
		t.Fatal(err)
	}
	filled, read := false, false
	for _, d := range file.Decls {
		if f, ok := d.(*ast.FuncDecl); ok && f.Recv == nil && names(f.Body, "linkHappenings") {
			filled = filled || f.Name.Name == "init"
			read = read || f.Name.IsExported()
		}
	}
	if !filled || !read {
		t.Errorf("filled by init: %v, read by an exported function: %v", filled, read)
	}
}

func names(body ast.Node, name string) bool {
	found := false
	ast.Inspect(body, func(n ast.Node) bool {
		id, ok := n.(*ast.Ident)
		found = found || ok && id.Name == name
		return true
	})
	return found
}
