package tests

import (
	"math"
	"reflect"
	"slices"
	"testing"

	"loop.example/laplink/impl"
)

// craftOf is an aircraft that holds threeSteps, of which it has flown so much.
// The spans of that path are 10 to 20, 13 to 25, 16 to 60 and 20 to 63.
func craftOf(flown ...int) impl.LinkCraft {
	return impl.LinkCraft{Name: "kite", Number: 7, Path: threeSteps(), Flown: flown}
}

// otherCraft is such an aircraft with a change.
func otherCraft(change func(c *impl.LinkCraft), flown ...int) impl.LinkCraft {
	c := craftOf(flown...)
	change(&c)
	return c
}

// onPath is such an aircraft that holds another path.
func onPath(p impl.FlyPath, flown ...int) impl.LinkCraft {
	return otherCraft(func(c *impl.LinkCraft) { c.Path = p }, flown...)
}

// sameCraft holds two aircraft against each other; an empty list is the same as nil.
func sameCraft(a impl.LinkCraft, b impl.LinkCraft) bool {
	same := a.Name == b.Name && a.Number == b.Number && a.No == b.No
	return same && samePath(a.Path, b.Path) && slices.Equal(a.Flown, b.Flown)
}

// plainBegun says whether one of these flights has flown as its first ticks.
func plainBegun(c impl.LinkCraft, flights [][]int) bool {
	return len(c.Flown) <= len(c.Path.Steps) && len(plainNext(flights, c.Flown)) > 0
}

// plainStays says whether one who has flown so much could stay behind a tick
// with a path whose flights are these.
func plainStays(p impl.FlyPath, flights [][]int, flown []int, tick int) bool {
	if len(flown) == 0 {
		return slices.ContainsFunc(flights, func(flight []int) bool { return flight[0] > tick })
	}
	_, ok := plainRest(p, len(flown)-1, flown[len(flown)-1], tick, anyFlight)
	return ok
}

// plainCraftOk says of an aircraft, the flights of whose path are these, what
// chapter 22 says, word by word.
func plainCraftOk(c impl.LinkCraft, now int, flights [][]int) bool {
	ok := plainName(c.Name) && within(1, c.Number, 1000000) && within(0, c.No, 1000000) && c.No != c.Number
	ok = ok && within(0, now, 10000) && plainBegun(c, flights)
	ok = ok && (len(c.Flown) == 0 || c.Flown[len(c.Flown)-1] <= now)
	return ok && plainStays(c.Path, flights, c.Flown, now)
}

// allTicks is a path of one step that may be held in, with ticks from the
// first to the last.
func allTicks() impl.FlyPath {
	return oneStep(1, 1, spanOf(0, 10000), spanOf(0, 10000), true)
}

func TestLinkCraftOk(t *testing.T) {
	least, most := math.MinInt, math.MaxInt
	named := func(name string) impl.LinkCraft {
		return otherCraft(func(c *impl.LinkCraft) { c.Name = name })
	}
	numbered := func(number int, no int) impl.LinkCraft {
		return otherCraft(func(c *impl.LinkCraft) { c.Number, c.No = number, no })
	}
	// Its middle step can't be reached from its first one.
	apart := changed(func(p *impl.FlyPath) { p.Steps[0].From, p.Steps[0].By = 1, 2 })
	for name, c := range map[string]struct {
		craft impl.LinkCraft
		now   int
		ok    bool
	}{
		"waits":                                  {craftOf(), 5, true},
		"waits, an empty list":                   {otherCraft(func(c *impl.LinkCraft) { c.Flown = []int{} }), 5, true},
		"waits at 0":                             {craftOf(), 0, true},
		"waits ahead of 0":                       {craftOf(), -1, false},
		"waits at the first tick":                {craftOf(), 10, true},
		"waits at the last tick at which it can": {craftOf(), 19, true},
		"waits one tick later":                   {craftOf(), 20, false},
		"waits long past":                        {craftOf(), 30, false},
		"waits until all ticks are gone":         {onPath(allTicks()), 9998, true},
		"waits one tick too long":                {onPath(allTicks()), 9999, false},
		"waits at FlyMaxTick":                    {onPath(allTicks()), 10000, false},
		"waits past FlyMaxTick":                  {onPath(allTicks()), 10001, false},
		"waits, at the span, not the window":     {onPath(earlyEnd()), 19, true},
		"waits, pulled back by the end":          {onPath(changed(func(p *impl.FlyPath) { p.By = 22 })), 12, true},
		"waits, pulled back, one later":          {onPath(changed(func(p *impl.FlyPath) { p.By = 22 })), 13, false},
		"waits, no flight":                       {onPath(noFlight()), 5, false},
		"waits, no path":                         {onPath(impl.FlyPath{}), 5, false},
		"waits, not ok":                          {onPath(changed(func(p *impl.FlyPath) { p.By = 10001 })), 5, false},
		"first, at its entry":                    {craftOf(10), 10, true},
		"first, its entry above now":             {craftOf(11), 10, false},
		"first, at the last tick":                {craftOf(10), 14, true},
		"first, one tick later":                  {craftOf(10), 15, false},
		"first, entered last":                    {craftOf(20), 24, true},
		"first, entered last, one later":         {craftOf(20), 25, false},
		"first, entered ahead of From":           {craftOf(9), 12, false},
		"first, entered past By":                 {craftOf(21), 22, false},
		"first, entered at 0, now 0":             {onPath(allTicks(), 0), 0, true},
		"first, entered at 0, now below":         {onPath(allTicks(), 0), -1, false},
		"first, up to the last tick but one":     {onPath(allTicks(), 0), 9999, true},
		"first, at FlyMaxTick":                   {onPath(allTicks(), 0), 10000, false},
		"first, past FlyMaxTick":                 {onPath(allTicks(), 0), 10001, false},
		"first, entered at the last tick":        {onPath(allTicks(), 10000), 10000, false},
		"middle, at its entry":                   {craftOf(10, 13), 13, true},
		"middle, its entry above now":            {craftOf(10, 13), 12, false},
		"middle, held to the last tick":          {craftOf(10, 13), 59, true},
		"middle, one tick later":                 {craftOf(10, 13), 60, false},
		"middle, entered too quickly":            {craftOf(10, 12), 20, false},
		"middle, entered too slowly":             {craftOf(10, 16), 20, false},
		"middle, entered as another flight":      {craftOf(13, 16), 20, true},
		"middle, a bad beginning":                {craftOf(9, 13), 20, false},
		"middle, no flight to it":                {onPath(apart, 2, 20), 20, false},
		"last, at its entry":                     {craftOf(10, 13, 16), 16, true},
		"last, at the last tick":                 {craftOf(10, 13, 16), 20, true},
		"last, one tick later":                   {craftOf(10, 13, 16), 21, false},
		"last, entered last":                     {craftOf(10, 13, 60), 62, true},
		"last, entered last, one later":          {craftOf(10, 13, 60), 63, false},
		"last, its entry above now":              {craftOf(10, 13, 17), 16, false},
		"landed":                                 {craftOf(10, 13, 16, 20), 20, false},
		"landed, one tick later":                 {craftOf(10, 13, 16, 20), 21, false},
		"more than a flight":                     {craftOf(10, 13, 16, 20, 23), 23, false},
		"many more":                              {craftOf(ticksUp(10, 1000)...), 1010, false},
		"ticks that go back":                     {craftOf(20, 10), 20, false},
		"flown at the least":                     {craftOf(least), 20, false},
		"flown at the greatest":                  {craftOf(most), 20, false},
		"flown and now at the greatest":          {craftOf(most), most, false},
		"flown and now at the least":             {craftOf(least), least, false},
		"forty steps flown":                      {onPath(zigzag(40), ticksUp(9, 40)...), 48, true},
		"forty steps flown, one tick later":      {onPath(zigzag(40), ticksUp(9, 40)...), 49, false},
		"forty steps and landed":                 {onPath(zigzag(40), ticksUp(9, 41)...), 49, false},
		"41 steps":                               {onPath(zigzag(41), 9), 9, false},
		"now at the least":                       {craftOf(), least, false},
		"now at the greatest":                    {craftOf(), most, false},
		"no name":                                {named(""), 5, false},
		"a name of 8 bytes":                      {named("abc-0129"), 5, true},
		"a name of 9 bytes":                      {named("abc-01290"), 5, false},
		"an upper case letter":                   {named("Kite"), 5, false},
		"no text":                                {named("k\xff"), 5, false},
		"Number 0":                               {numbered(0, 0), 5, false},
		"Number 0, No 1":                         {numbered(0, 1), 5, false},
		"Number 1":                               {numbered(1, 0), 5, true},
		"Number below 0":                         {numbered(-1, 0), 5, false},
		"the greatest Number":                    {numbered(1000000, 0), 5, true},
		"one past it":                            {numbered(1000001, 0), 5, false},
		"Number at the least":                    {numbered(least, 0), 5, false},
		"Number at the greatest":                 {numbered(most, 0), 5, false},
		"No below Number":                        {numbered(7, 6), 5, true},
		"No equal to Number":                     {numbered(7, 7), 5, false},
		"No above Number":                        {numbered(7, 8), 5, true},
		"No below 0":                             {numbered(7, -1), 5, false},
		"the greatest No":                        {numbered(7, 1000000), 5, true},
		"No one past it":                         {numbered(7, 1000001), 5, false},
		"both the greatest":                      {numbered(1000000, 1000000), 5, false},
		"No at the least":                        {numbered(7, least), 5, false},
		"No at the greatest":                     {numbered(7, most), 5, false},
		"nothing":                                {impl.LinkCraft{}, 0, false},
	} {
		if got := impl.LinkCraftOk(c.craft, c.now); got != c.ok {
			t.Errorf("%s: %v", name, got)
		}
	}
}

// moveCase is an aircraft and the ticks at which it may move; at the last of
// them it must, if it must at all. Low above High: it may at none.
type moveCase struct {
	craft impl.LinkCraft
	may   impl.FlySpan
}

func moveCases() map[string]moveCase {
	none := spanOf(1, 0)
	return map[string]moveCase{
		"into the first step":         {craftOf(), spanOf(10, 20)},
		"into the second":             {craftOf(10), spanOf(13, 15)},
		"into the second, late":       {craftOf(20), spanOf(23, 25)},
		"out of the one held in":      {craftOf(10, 13), spanOf(16, 60)},
		"out of the last":             {craftOf(10, 13, 16), spanOf(20, 21)},
		"out of the last, last":       {craftOf(10, 13, 60), spanOf(63, 63)},
		"landed":                      {craftOf(10, 13, 16, 20), none},
		"more than a flight":          {craftOf(10, 13, 16, 20, 24), none},
		"flown too quickly":           {craftOf(10, 12), none},
		"flown too slowly":            {craftOf(10, 16), none},
		"flown ahead of From":         {craftOf(9), none},
		"flown at the least":          {craftOf(math.MinInt), none},
		"flown at the greatest":       {craftOf(math.MaxInt), none},
		"no flight":                   {onPath(noFlight()), none},
		"no flight, one flown":        {onPath(noFlight(), 10), none},
		"not ok":                      {onPath(changed(func(p *impl.FlyPath) { p.By = 10001 })), none},
		"nothing held":                {onPath(impl.FlyPath{}), none},
		"all ticks, into":             {onPath(allTicks()), spanOf(0, 9999)},
		"all ticks, out of":           {onPath(allTicks(), 0), spanOf(1, 10000)},
		"all ticks, out of, late":     {onPath(allTicks(), 9999), spanOf(10000, 10000)},
		"all ticks, too late":         {onPath(allTicks(), 10000), none},
		"forty steps, the last":       {onPath(zigzag(40), ticksUp(9960, 39)...), spanOf(9999, 9999)},
		"forty steps, out of":         {onPath(zigzag(40), ticksUp(9960, 40)...), spanOf(10000, 10000)},
		"41 steps":                    {onPath(zigzag(41), 3), none},
		"Number and No do not matter": {otherCraft(func(c *impl.LinkCraft) { c.Number, c.No = -1, -1 }, 10), spanOf(13, 15)},
		"nothing":                     {impl.LinkCraft{}, none},
	}
}

func TestLinkMoveAndLinkMust(t *testing.T) {
	for name, c := range moveCases() {
		nows := append(ticksUp(-1, 70), 9998, 9999, 10000, 10001)
		for _, now := range append(nows, wild...) {
			may := within(c.may.Low, now, c.may.High)
			want := c.craft
			if may {
				want.Flown = append(slices.Clone(want.Flown), now)
			}
			got, ok := impl.LinkMove(c.craft, now)
			if ok != may || !sameCraft(got, want) {
				t.Errorf("%s, at %d: %v %v", name, now, got, ok)
			}
			if must := impl.LinkMust(c.craft, now); must != (may && now == c.may.High) {
				t.Errorf("%s, at %d: must is %v", name, now, must)
			}
		}
	}
}

// Who has no name does not move; whether they must is asked of their path alone.
func TestLinkMoveAsksForAName(t *testing.T) {
	for _, name := range []string{"", "a", "abc-0129", "abc-01290", "K", "k\xff", "ä"} {
		c := otherCraft(func(c *impl.LinkCraft) { c.Name = name }, 10)
		got, ok := impl.LinkMove(c, 15)
		want := c
		if plainName(name) {
			want.Flown = []int{10, 15}
		}
		if ok != plainName(name) || !sameCraft(got, want) {
			t.Errorf("%q: %v %v", name, got, ok)
		}
		if !impl.LinkMust(c, 15) || impl.LinkMust(c, 14) {
			t.Errorf("%q: must is %v at 15 and %v at 14", name, impl.LinkMust(c, 15), impl.LinkMust(c, 14))
		}
	}
}

// someFlown are beginnings of flights, and some beside them that begin none.
func someFlown(flights [][]int, steps int) [][]int {
	all := [][]int{nil, {-1}, {0, 0}, ticksUp(0, steps+2)}
	for _, flight := range flights {
		for size := range flight {
			begun := flight[:size+1]
			all = append(all, slices.Clone(begun))
			beside := slices.Clone(begun)
			beside[size]++
			all = append(all, beside)
			before := slices.Clone(begun)
			before[0]--
			all = append(all, before)
		}
	}
	return sorted(all)
}

// Promise 14: LinkMove goes on just where the path allows it; who must move
// may, and who moved can stay.
func TestLinkCraftsOfEverySmallPath(t *testing.T) {
	oks, moves, musts, lands := 0, 0, 0, 0
	fewPaths(13, func(p impl.FlyPath) {
		flights := plainFlights(p, nil)
		for _, flown := range someFlown(flights, len(p.Steps)) {
			c := onPath(p, flown...)
			next := plainNext(flights, flown)
			for now := -1; now <= 13; now++ {
				ok, must := impl.LinkCraftOk(c, now), impl.LinkMust(c, now)
				if want := plainCraftOk(c, now, flights); ok != want {
					t.Errorf("%v now %d: ok is %v", c, now, ok)
				}
				moved, may := impl.LinkMove(c, now)
				if may != slices.Contains(next, now) {
					t.Errorf("%v now %d: moves is %v", c, now, may)
				}
				if want := may && !plainStays(p, flights, flown, now); must != want {
					t.Errorf("%v now %d: must is %v", c, now, must)
				}
				landed := len(moved.Flown) > len(p.Steps)
				if may && !landed && !impl.LinkCraftOk(moved, now) {
					t.Errorf("%v moved at %d and is not ok", c, now)
				}
				// Who could stay behind the tick ahead can stay, or must move now.
				if impl.LinkCraftOk(c, now-1) && ok == must {
					t.Errorf("%v now %d: ok is %v, must is %v", c, now, ok, must)
				}
				oks, moves, musts, lands = oks+count(ok), moves+count(may), musts+count(must), lands+count(may && landed)
			}
		}
	})
	if min(oks, moves, musts, lands) < 1000 {
		t.Errorf("ok: %d, moved: %d, had to: %d, landed: %d", oks, moves, musts, lands)
	}
}

func count(is bool) int {
	if is {
		return 1
	}
	return 0
}

// craftNumbers are the places of all numbers of an aircraft but those of its path.
func craftNumbers(c *impl.LinkCraft) []*int {
	all := []*int{&c.Number, &c.No}
	for place := range c.Flown {
		all = append(all, &c.Flown[place])
	}
	return all
}

func TestLinkCraftsOfWildNumbers(t *testing.T) {
	flown := []int{10, 13, 16}
	path := withStep(threeSteps(), 1, func(s *impl.FlyStep) { s.Hold = false })
	flights := plainFlights(path, nil)
	for size := range 4 {
		for place := range size + 2 {
			for _, n := range wild {
				for _, now := range wild {
					c := onPath(path, slices.Clone(flown[:size])...)
					*craftNumbers(&c)[place] = n
					if got, want := impl.LinkCraftOk(c, now), plainCraftOk(c, now, flights); got != want {
						t.Errorf("%v now %d: %v", c, now, got)
					}
					may := slices.Contains(plainNext(flights, c.Flown), now)
					if _, got := impl.LinkMove(c, now); got != may {
						t.Errorf("%v now %d: moves is %v", c, now, got)
					}
					if got := impl.LinkMust(c, now); got != (may && !plainStays(path, flights, c.Flown, now)) {
						t.Errorf("%v now %d: must is %v", c, now, got)
					}
				}
			}
		}
	}
}

// Each number of the path in turn is made wild: nobody moves along a path that
// is not ok, or is ok with one.
func TestLinkCraftsOfWildPaths(t *testing.T) {
	for name, at := range pathNumbers() {
		for _, n := range wild {
			for _, flown := range [][]int{nil, {10}, {10, 13}, {10, 13, 16}} {
				c := craftOf(flown...)
				*at(&c.Path) = n
				some := anyFlight(c.Path)
				for _, now := range append([]int{10, 13, 14, 16, 20}, wild...) {
					ok, must := impl.LinkCraftOk(c, now), impl.LinkMust(c, now)
					_, may := impl.LinkMove(c, now)
					if !some && (ok || must || may) || must && !may {
						t.Errorf("%s is %d, flown %v, now %d: %v %v %v", name, n, flown, now, ok, must, may)
					}
				}
			}
		}
	}
}

// spoil writes over all that an aircraft has, spare room included.
func spoil(c impl.LinkCraft) {
	steps, flown := c.Path.Steps[:cap(c.Path.Steps)], c.Flown[:cap(c.Flown)]
	for i := range steps {
		steps[i] = impl.FlyStep{X: -1}
	}
	for i := range flown {
		flown[i] = -1
	}
}

func TestLinkCraftsWriteAndKeepNothing(t *testing.T) {
	steps := append(threeSteps().Steps, impl.FlyStep{X: 9}, impl.FlyStep{X: 8})
	flown := []int{10, 13, 16, 77, 78, 79}
	keptSteps, keptFlown := slices.Clone(steps), slices.Clone(flown)
	for size, now := range []int{15, 14, 17, 20} {
		for _, name := range []string{"kite", "No"} {
			c := craftOf(flown[:size]...)
			c.Name, c.Path.Steps = name, steps[:3]
			for range 2 {
				moved, ok := impl.LinkMove(c, now)
				if ok != (name == "kite") || len(moved.Flown) != size+count(ok) || !slices.Equal(moved.Path.Steps, keptSteps[:3]) {
					t.Errorf("%d flown, at %d: %v %v", size, now, moved, ok)
				}
				spoil(moved)
				impl.LinkCraftOk(c, now)
				impl.LinkMust(c, now)
				if !reflect.DeepEqual(steps, keptSteps) || !slices.Equal(flown, keptFlown) {
					t.Fatalf("%d flown, at %d: steps are %v, flown %v", size, now, steps, flown)
				}
			}
		}
	}
}
