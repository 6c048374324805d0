package tests

import (
	"math"
	"slices"
	"strings"
	"testing"

	"loop.example/laplink/impl"
)

// tubeOf is a tube with these boxes, in memory of its own.
func tubeOf(name string, boxes ...impl.ProbeBox) impl.ProbeTube {
	return impl.ProbeTube{Name: name, Boxes: slices.Clone(boxes)}
}

// manyBoxes is so many boxes, each of another tick.
func manyBoxes(count int) []impl.ProbeBox {
	var boxes []impl.ProbeBox
	for i := range count {
		boxes = append(boxes, impl.ProbeBox{X: i % 16, In: i, Out: i})
	}
	return boxes
}

// sameTube holds an empty list and nil for the same.
func sameTube(a impl.ProbeTube, b impl.ProbeTube) bool {
	return a.Name == b.Name && slices.Equal(a.Boxes, b.Boxes)
}

// plainName says of a name what chapter 12 says, byte by byte.
func plainName(name string) bool {
	const letters = "abcdefghijklmnopqrstuvwxyz0123456789-"
	good := 0
	for place := range len(name) {
		if strings.IndexByte(letters, name[place]) >= 0 {
			good++
		}
	}
	return within(1, len(name), 8) && good == len(name)
}

func plainTubeOk(tube impl.ProbeTube) bool {
	return plainName(tube.Name) && len(tube.Boxes) <= 40 &&
		!slices.ContainsFunc(tube.Boxes, func(b impl.ProbeBox) bool { return !plainBoxOk(b) })
}

func TestProbeTubeOk(t *testing.T) {
	bad := impl.ProbeBox{X: 16}
	for name, c := range map[string]struct {
		tube impl.ProbeTube
		ok   bool
	}{
		"ordinary":                {tubeOf("a", midBox), true},
		"any order, and twice":    {tubeOf("a", midBox, impl.ProbeBox{}, midBox), true},
		"nothing":                 {impl.ProbeTube{}, false},
		"no boxes":                {impl.ProbeTube{Name: "a"}, true},
		"an empty list":           {impl.ProbeTube{Name: "a", Boxes: []impl.ProbeBox{}}, true},
		"40 boxes":                {tubeOf("a", manyBoxes(40)...), true},
		"41 boxes":                {tubeOf("a", manyBoxes(41)...), false},
		"a box that is not ok":    {tubeOf("a", bad), false},
		"the first is not ok":     {tubeOf("a", bad, midBox), false},
		"the last is not ok":      {tubeOf("a", midBox, bad), false},
		"one in 40 is not ok":     {tubeOf("a", slices.Concat(manyBoxes(39), []impl.ProbeBox{bad})...), false},
		"no name":                 {tubeOf("", midBox), false},
		"a name of 8 bytes":       {tubeOf("abc-0129", midBox), true},
		"a name of 9 bytes":       {tubeOf("abc-01290", midBox), false},
		"a name of one byte":      {tubeOf("-", midBox), true},
		"a digit alone":           {tubeOf("0", midBox), true},
		"an upper case letter":    {tubeOf("aB", midBox), false},
		"a space":                 {tubeOf("a b", midBox), false},
		"a space at the end":      {tubeOf("a ", midBox), false},
		"a zero byte":             {tubeOf("a\x00", midBox), false},
		"two bytes, one letter":   {tubeOf("ä", midBox), false},
		"a letter of three bytes": {tubeOf("a\uff0d", midBox), false},
		"four letters, 8 bytes":   {tubeOf("ääää", midBox), false},
		"no text":                 {tubeOf("\xff", midBox), false},
		"no text at the end":      {tubeOf("abc\xc3", midBox), false},
		"no text in the middle":   {tubeOf("a\x80b", midBox), false},
		"no text at first":        {tubeOf("\xe2\x82a", midBox), false},
		"what no text turns into": {tubeOf("a\ufffd", midBox), false},
		"a long name":             {tubeOf(strings.Repeat("a", 1000), midBox), false},
	} {
		if got := impl.ProbeTubeOk(c.tube); got != c.ok {
			t.Errorf("%s: %v", name, got)
		}
	}
}

// Each byte that there is, alone and at each place of a name.
func TestProbeTubeOkOfEachByte(t *testing.T) {
	for code := range 256 {
		one := string([]byte{byte(code)})
		names := []string{one, one + one}
		for place := range 8 {
			names = append(names, "abcdefgh"[:place]+one+"abcdefgh"[place+1:])
		}
		for _, name := range names {
			if got, want := impl.ProbeTubeOk(impl.ProbeTube{Name: name}), plainName(name); got != want {
				t.Errorf("%q: %v", name, got)
			}
		}
	}
	for size := range 12 {
		for _, letter := range []string{"a", "z", "0", "9", "-"} {
			name := strings.Repeat(letter, size)
			if got := impl.ProbeTubeOk(impl.ProbeTube{Name: name}); got != within(1, size, 8) {
				t.Errorf("%q: %v", name, got)
			}
		}
	}
}

func TestProbeTubeOkOfWildNumbers(t *testing.T) {
	for place := range 6 {
		for _, n := range wild {
			b := midBox
			*probeNumbers(&b)[place] = n
			for _, tube := range []impl.ProbeTube{tubeOf("a", b), tubeOf("a", b, midBox), tubeOf("a", midBox, b)} {
				if got, want := impl.ProbeTubeOk(tube), plainBoxOk(b); got != want {
					t.Errorf("%v: %v", tube, got)
				}
			}
		}
	}
}

// manyTubes is so many tubes, ascending by name.
func manyTubes(count int) []impl.ProbeTube {
	var list []impl.ProbeTube
	for i := range count {
		list = append(list, tubeOf("x"+string(rune('a'+i)), midBox))
	}
	return list
}

func TestProbeSkyOk(t *testing.T) {
	named := func(names ...string) []impl.ProbeTube {
		var list []impl.ProbeTube
		for _, name := range names {
			list = append(list, tubeOf(name, midBox))
		}
		return list
	}
	for name, c := range map[string]struct {
		list []impl.ProbeTube
		ok   bool
	}{
		"none":                        {nil, true},
		"an empty list":               {[]impl.ProbeTube{}, true},
		"one":                         {named("a"), true},
		"two, which come too near":    {named("a", "b"), true},
		"three":                       {named("a", "b", "c"), true},
		"24":                          {manyTubes(24), true},
		"25":                          {manyTubes(25), false},
		"one name":                    {named("a", "a"), false},
		"one name, later":             {named("a", "b", "b"), false},
		"one name, not side by side":  {named("a", "b", "a"), false},
		"wrong order":                 {named("b", "a"), false},
		"wrong order at the end":      {named("a", "c", "b"), false},
		"wrong order at first":        {named("b", "a", "c"), false},
		"the beginning comes first":   {named("a", "aa"), true},
		"the beginning comes last":    {named("aa", "a"), false},
		"longer, but lesser":          {named("ab", "b"), true},
		"shorter, but greater":        {named("b", "ab"), false},
		"bytes in order":              {named("-", "0", "9", "a", "z"), true},
		"a digit ahead of a dash":     {named("0", "-"), false},
		"a letter ahead of a digit":   {named("a", "9"), false},
		"a dash behind a beginning":   {named("a", "a-", "a0", "aa"), true},
		"digits as bytes, not as one": {named("10", "9"), true},
		"no boxes":                    {[]impl.ProbeTube{{Name: "a"}, {Name: "b"}}, true},
		"one of nothing":              {[]impl.ProbeTube{{}}, false},
		"the first is not ok":         {[]impl.ProbeTube{tubeOf("a", impl.ProbeBox{In: 1}), tubeOf("b")}, false},
		"the last is not ok":          {[]impl.ProbeTube{tubeOf("a"), tubeOf("b", impl.ProbeBox{In: 1})}, false},
		"the first has no name":       {named("", "a"), false},
		"the last has too long a one": {named("a", "bbbbbbbbb"), false},
		"the last has no text":        {named("a", "b\xff"), false},
	} {
		if got := impl.ProbeSkyOk(c.list); got != c.ok {
			t.Errorf("%s: %v", name, got)
		}
	}
}

func TestProbeSkyOkOfEveryPairOfNames(t *testing.T) {
	names := []string{"", "-", "--", "0", "00", "9", "a", "a-", "aa", "aaaaaaaa", "aaaaaaaaa", "ab", "b", "z", "zz", "A", "\xff", "é"}
	for _, one := range names {
		for _, other := range names {
			want := plainName(one) && plainName(other) && strings.Compare(one, other) < 0
			if got := impl.ProbeSkyOk([]impl.ProbeTube{tubeOf(one), tubeOf(other)}); got != want {
				t.Errorf("%q %q: %v", one, other, got)
			}
		}
	}
}

func TestProbeCut(t *testing.T) {
	early, late := impl.ProbeBox{X: 1, Low: 2, High: 3, In: 5, Out: 9}, impl.ProbeBox{X: 2, In: 10, Out: 12}
	both := tubeOf("a", late, early)
	entered := func(b impl.ProbeBox, in int) impl.ProbeBox {
		b.In = in
		return b
	}
	for name, c := range map[string]struct {
		from  int
		boxes []impl.ProbeBox
	}{
		"least":                    {math.MinInt, both.Boxes},
		"below 0":                  {-1, both.Boxes},
		"at 0":                     {0, both.Boxes},
		"ahead of the first In":    {4, both.Boxes},
		"at the first In":          {5, both.Boxes},
		"behind the first In":      {6, []impl.ProbeBox{late, entered(early, 6)}},
		"ahead of the first Out":   {8, []impl.ProbeBox{late, entered(early, 8)}},
		"at the first Out":         {9, []impl.ProbeBox{late, entered(early, 9)}},
		"behind the first Out":     {10, []impl.ProbeBox{late}},
		"behind the second In":     {11, []impl.ProbeBox{entered(late, 11)}},
		"at the second Out":        {12, []impl.ProbeBox{entered(late, 12)}},
		"behind the second Out":    {13, nil},
		"at the last tick":         {10000, nil},
		"behind the last tick":     {10001, nil},
		"one ahead of the highest": {math.MaxInt - 1, nil},
		"greatest":                 {math.MaxInt, nil},
	} {
		if got, want := impl.ProbeCut(both, c.from), tubeOf("a", c.boxes...); !sameTube(got, want) {
			t.Errorf("%s: %v, not %v", name, got, want)
		}
	}
	whole := tubeOf("a", impl.ProbeBox{Out: 10000})
	if got := impl.ProbeCut(whole, 10000); !sameTube(got, tubeOf("a", impl.ProbeBox{In: 10000, Out: 10000})) {
		t.Errorf("the last tick of the widest box: %v", got)
	}
	if got := impl.ProbeCut(impl.ProbeTube{Name: "a"}, 3); !sameTube(got, tubeOf("a")) {
		t.Errorf("no boxes: %v", got)
	}
	if got := impl.ProbeCut(tubeOf("a", manyBoxes(40)...), 0); !sameTube(got, tubeOf("a", manyBoxes(40)...)) {
		t.Errorf("40 boxes: %v", got)
	}
}

func TestProbeCutOfTubesThatAreNotOk(t *testing.T) {
	for name, tube := range map[string]impl.ProbeTube{
		"nothing":                  {},
		"no name":                  tubeOf("", midBox),
		"a name too long":          tubeOf("abcdefghi", midBox),
		"a name that is no text":   tubeOf("a\xff", midBox),
		"too many boxes":           tubeOf("a", manyBoxes(41)...),
		"too many, but few behind": tubeOf("a", slices.Concat(manyBoxes(40), []impl.ProbeBox{midBox})...),
		"a box that is not ok":     tubeOf("a", midBox, impl.ProbeBox{In: 3, Out: 2}),
		"its box would be cut off": tubeOf("a", impl.ProbeBox{X: -1, Out: 1}, midBox),
		"cut it would be ok":       tubeOf("a", impl.ProbeBox{In: -1, Out: 20}),
	} {
		for _, from := range []int{math.MinInt, -1, 0, 5, 15, 10000, math.MaxInt} {
			if got := impl.ProbeCut(tube, from); !sameTube(got, impl.ProbeTube{}) {
				t.Errorf("%s, from %d: %v", name, from, got)
			}
		}
	}
}

// Every small box from every tick, tick by tick: what is left is what was
// there, from that tick on.
func TestProbeCutTickByTick(t *testing.T) {
	for code := range 5 * 5 * 7 {
		in, out, from := code%5, code/5%5, code/25-1
		b := impl.ProbeBox{X: 4, Low: 1, High: 2, In: in, Out: out}
		got := impl.ProbeCut(tubeOf("a", b), from)
		if in > out {
			if !sameTube(got, impl.ProbeTube{}) {
				t.Errorf("%v from %d: %v", b, from, got)
			}
			continue
		}
		for tick := -1; tick <= 6; tick++ {
			left := slices.ContainsFunc(got.Boxes, func(c impl.ProbeBox) bool { return within(c.In, tick, c.Out) })
			if want := within(in, tick, out) && tick >= from; left != want {
				t.Errorf("%v from %d at %d: %v", b, from, tick, got)
			}
		}
		if !impl.ProbeTubeOk(got) || !impl.ProbeSmaller(got, tubeOf("a", b)) {
			t.Errorf("%v from %d: %v", b, from, got)
		}
	}
}

func TestProbeCutWritesAndKeepsNothing(t *testing.T) {
	room := []impl.ProbeBox{midBox, {X: 1, In: 3, Out: 30}, {X: 9}, {X: 8}}
	kept := slices.Clone(room)
	tube := impl.ProbeTube{Name: "a", Boxes: room[:2]}
	for _, from := range []int{0, 12} {
		got := impl.ProbeCut(tube, from)
		want := tubeOf(got.Name, got.Boxes...)
		for i := range got.Boxes[:cap(got.Boxes)] {
			got.Boxes[:cap(got.Boxes)][i] = impl.ProbeBox{X: -1}
		}
		if again := impl.ProbeCut(tube, from); !sameTube(again, want) {
			t.Errorf("behind a change it is %v, not %v", again, want)
		}
		if !slices.Equal(room, kept) {
			t.Errorf("boxes are %v", room)
		}
	}
}

func TestProbeSmaller(t *testing.T) {
	type list = []impl.ProbeBox
	for name, c := range map[string]struct {
		a, b list
		ok   bool
	}{
		"none in none":                    {nil, nil, true},
		"empty in empty":                  {list{}, list{}, true},
		"none in one":                     {nil, list{midBox}, true},
		"one in none":                     {list{midBox}, nil, false},
		"the same":                        {list{midBox}, list{midBox}, true},
		"the same one twice":              {list{midBox, midBox}, list{midBox}, true},
		"in the second":                   {list{midBox}, list{{}, midBox}, true},
		"in the first":                    {list{midBox}, list{midBox, {}}, true},
		"ticks in two together":           {list{{In: 1, Out: 6}}, list{{In: 1, Out: 3}, {In: 4, Out: 6}}, false},
		"ticks in two that overlap":       {list{{In: 1, Out: 6}}, list{{In: 1, Out: 5}, {In: 2, Out: 6}}, false},
		"levels in two together":          {list{{High: 3}}, list{{High: 1}, {Low: 2, High: 3}}, false},
		"levels of one, ticks of another": {list{{High: 3, Out: 3}}, list{{High: 3}, {Out: 3}}, false},
		"two in one":                      {list{{In: 1, Out: 2}, {In: 4, Out: 6}}, list{{Out: 9}}, true},
		"the second is not":               {list{{In: 1, Out: 2}, {In: 4, Out: 10}}, list{{Out: 9}}, false},
		"the first is not":                {list{{Out: 2}, {In: 4, Out: 9}}, list{{In: 1, Out: 9}}, false},
		"other order":                     {list{{X: 1}, {X: 2}}, list{{X: 2}, {X: 1}}, true},
		"X and Y turned":                  {list{{X: 1, Y: 2}}, list{{X: 2, Y: 1}}, false},
		"40 in 40":                        {manyBoxes(40), manyBoxes(40), true},
		"41 in 41":                        {manyBoxes(41), manyBoxes(41), false},
		"41 in 40, which hold them":       {slices.Repeat(list{midBox}, 41), list{midBox}, false},
		"one in 41":                       {list{{}}, manyBoxes(41), false},
		"none in 41":                      {nil, manyBoxes(41), false},
		"a is not ok":                     {list{{X: 16}}, list{{X: 16}}, false},
		"a has nothing by levels":         {list{{Low: 1}}, list{{High: 6}}, false},
		"a has nothing by ticks":          {list{{In: 1}}, list{{Out: 6}}, false},
		"b is not ok beside its box":      {list{midBox}, list{midBox, {X: 16}}, false},
		"b is not ok, a has none":         {nil, list{{X: 16}}, false},
		"b is wider than is ok":           {list{midBox}, list{otherBox(func(b *impl.ProbeBox) { b.Out = 10001 })}, false},
	} {
		if got := impl.ProbeSmaller(tubeOf("a", c.a...), tubeOf("b", c.b...)); got != c.ok {
			t.Errorf("%s: %v", name, got)
		}
	}
	for _, name := range []string{"", "abcdefghi", "A", "\xff"} {
		if impl.ProbeSmaller(tubeOf(name), tubeOf("b", midBox)) || impl.ProbeSmaller(tubeOf("a"), tubeOf(name, midBox)) {
			t.Errorf("%q is a name", name)
		}
	}
	if !impl.ProbeSmaller(tubeOf("a", midBox), tubeOf("a", midBox)) {
		t.Error("a tube is not in itself")
	}
}

// Each number of a box met exactly, one inside, and missed by one.
func TestProbeSmallerAtEachBound(t *testing.T) {
	for place, inside := range []int{0, 0, 1, -1, 1, -1} {
		for _, off := range []int{-1, 0, 1} {
			b := midBox
			*probeNumbers(&b)[place] += off
			want := off == 0 || off == inside
			if got := impl.ProbeSmaller(tubeOf("a", b), tubeOf("b", midBox)); got != want {
				t.Errorf("%v in %v: %v", b, midBox, got)
			}
		}
	}
}

// plainSmallerTube says chapter 12 once more, word by word.
func plainSmallerTube(a impl.ProbeTube, b impl.ProbeTube) bool {
	held := 0
	for _, x := range a.Boxes {
		if slices.ContainsFunc(b.Boxes, func(y impl.ProbeBox) bool {
			return x.X == y.X && x.Y == y.Y &&
				within(y.Low, x.Low, y.High) && within(y.Low, x.High, y.High) &&
				within(y.In, x.In, y.Out) && within(y.In, x.Out, y.Out)
		}) {
			held++
		}
	}
	return plainTubeOk(a) && plainTubeOk(b) && held == len(a.Boxes)
}

func TestProbeSmallerOfEverySmallBox(t *testing.T) {
	var boxes []impl.ProbeBox
	for code := range 3 * 3 * 3 * 3 * 2 {
		boxes = append(boxes, impl.ProbeBox{X: code / 81, Low: code % 3, High: code / 3 % 3, In: code / 9 % 3, Out: code / 27 % 3})
	}
	for _, x := range boxes {
		for _, y := range boxes {
			a, b := tubeOf("a", x), tubeOf("b", y)
			if got, want := impl.ProbeSmaller(a, b), plainSmallerTube(a, b); got != want {
				t.Errorf("%v in %v: %v", x, y, got)
			}
			a, b = tubeOf("a", impl.ProbeBox{X: 1, High: 2}, x), tubeOf("b", y, impl.ProbeBox{X: 1, High: 2, Out: 2})
			if got, want := impl.ProbeSmaller(a, b), plainSmallerTube(a, b); got != want {
				t.Errorf("%v in %v: %v", a, b, got)
			}
		}
	}
}

func TestProbeSmallerOfWildNumbers(t *testing.T) {
	for place := range 6 {
		for other := range 6 {
			for _, n := range wild {
				for _, m := range wild {
					a, b := tubeOf("a", midBox), tubeOf("b", midBox)
					*probeNumbers(&a.Boxes[0])[place] = n
					*probeNumbers(&b.Boxes[0])[other] = m
					if got, want := impl.ProbeSmaller(a, b), plainSmallerTube(a, b); got != want {
						t.Errorf("%v in %v: %v", a, b, got)
					}
				}
			}
		}
	}
}

func TestProbeTubesAreNotWritten(t *testing.T) {
	a := []impl.ProbeBox{midBox, {X: 1, In: 3, Out: 3}, {X: 9}, {X: 8}}
	b := []impl.ProbeBox{{X: 2}, midBox, {X: 7}, {X: 6}}
	keptA, keptB := slices.Clone(a), slices.Clone(b)
	one, other := impl.ProbeTube{Name: "a", Boxes: a[:2]}, impl.ProbeTube{Name: "b", Boxes: b[:2]}
	list := []impl.ProbeTube{one, other, one}
	impl.ProbeTubeOk(one)
	impl.ProbeSkyOk(list[:2])
	impl.ProbeSmaller(one, other)
	impl.ProbeMeet(one, other)
	if !slices.Equal(a, keptA) || !slices.Equal(b, keptB) {
		t.Errorf("boxes are %v and %v", a, b)
	}
	if !sameTube(list[0], one) || !sameTube(list[1], other) || !sameTube(list[2], one) {
		t.Errorf("tubes are %v", list)
	}
}
