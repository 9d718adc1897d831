package index

import (
	"cmp"
	"math"
	"math/rand"
	"slices"
	"strconv"
	"strings"
	"testing"

	"tenement/api"
)

// A key is what an index has one row of.
type key struct {
	table int
	text  string
}

// A rig is an index, and what it should have, without any order.
type rig struct {
	t    *testing.T
	x    Index
	want map[key]Item
	puts int
}

func newRig(t *testing.T) *rig { return &rig{t: t, want: map[key]Item{}} }

// rigOf: an index with rows of these keys.
func rigOf(t *testing.T, keys ...key) *rig {
	t.Helper()
	g := newRig(t)
	for _, k := range keys {
		g.put(k)
	}
	return g
}

// put puts a row that differs in all its fields from the one that was there.
func (g *rig) put(k key) {
	g.puts++
	i := item(k, g.puts)
	g.x.Put(i)
	g.want[k] = i
}

func item(k key, n int) Item {
	return Item{Row: api.Row{Table: k.table, Key: k.text, Value: "v" + strconv.Itoa(n)}, Page: n + 1000, Slot: n + 2000}
}

func (g *rig) remove(k key) {
	g.x.Remove(k.table, k.text)
	delete(g.want, k)
}

// sorted: what should be there of those that are asked for, in order, which is told here by itself.
func (g *rig) sorted(asked func(k key) bool) []Item {
	var all []Item
	for k, i := range g.want {
		if asked(k) {
			all = append(all, i)
		}
	}
	slices.SortFunc(all, func(a, b Item) int {
		return cmp.Or(cmp.Compare(a.Row.Table, b.Row.Table), strings.Compare(a.Row.Key, b.Row.Key))
	})
	return all
}

func (g *rig) all() []Item { return g.sorted(func(key) bool { return true }) }

func (g *rig) within(table int, from, to string) []Item {
	return g.sorted(func(k key) bool { return k.table == table && k.text >= from && k.text <= to })
}

// check holds Len, All and Find against what should be there; Find also of keys that aren't.
func (g *rig) check() {
	g.t.Helper()
	if g.x.Len() != len(g.want) {
		g.t.Fatalf("Len is %d, want %d", g.x.Len(), len(g.want))
	}
	if got, want := slices.Collect(g.x.All), g.all(); !slices.Equal(got, want) {
		g.t.Fatalf("All yields %v, want %v", got, want)
	}
	for k := range g.want {
		for _, table := range []int{k.table - 1, k.table, k.table + 1} {
			for _, text := range []string{"", k.text, k.text + "\x00", k.text + "a", k.text[:max(len(k.text), 1)-1]} {
				g.checkFind(key{table, text})
			}
		}
	}
}

func (g *rig) checkFind(k key) {
	g.t.Helper()
	want, there := g.want[k]
	if got, ok := g.x.Find(k.table, k.text); got != want || ok != there {
		g.t.Fatalf("Find(%d, %q) is %v, %v; want %v, %v", k.table, k.text, got, ok, want, there)
	}
}

func (g *rig) checkScan(table int, from, to string) {
	g.t.Helper()
	got, want := slices.Collect(g.x.Scan(table, from, to)), g.within(table, from, to)
	if !slices.Equal(got, want) {
		g.t.Fatalf("Scan(%d, %q, %q) yields %v, want %v", table, from, to, got, want)
	}
}

// of: keys of a table.
func of(table int, texts ...string) []key {
	var all []key
	for _, s := range texts {
		all = append(all, key{table, s})
	}
	return all
}

// permutations: all orders of these.
func permutations(keys []key) [][]key {
	if len(keys) == 0 {
		return [][]key{nil}
	}
	var all [][]key
	for n, k := range keys {
		for _, rest := range permutations(slices.Delete(slices.Clone(keys), n, n+1)) {
			all = append(all, append([]key{k}, rest...))
		}
	}
	return all
}

// keysOf tells the keys of items, one behind the other.
func keysOf(items []Item) string {
	var all []string
	for _, i := range items {
		all = append(all, i.Key)
	}
	return strings.Join(all, " ")
}

// awkward: texts whose order is easily got wrong, among them some that begin one another.
func awkward() []string {
	return []string{
		"", "\x00", "\x00\x00", "A", "Z", "a", "a\x00", "a\x00b", "aa", "aaa", "ab", "b", "ba", "bb", "c", "10", "9",
		"\x7f", "\x80", "ß", "\xff", "\xff\xff", strings.Repeat("k", 15), strings.Repeat("k", 16), strings.Repeat("a", 300),
	}
}

func TestExample(t *testing.T) {
	for _, keys := range permutations(of(0, "a", "b", "bb", "d")) {
		g := rigOf(t, keys...)
		if got := keysOf(slices.Collect(g.x.Scan(0, "b", "c"))); got != "b bb" {
			t.Fatalf("put as %v: %s", keys, got)
		}
	}
}

func TestZeroIndex(t *testing.T) {
	for _, x := range []*Index{{}, new(Index)} {
		wantNone(t, x)
		// What isn't there may be removed.
		x.Remove(0, "")
		x.Remove(1, "a")
		wantNone(t, x)
		x.Put(item(key{1, "a"}, 1))
		if got, ok := x.Find(1, "a"); !ok || got != item(key{1, "a"}, 1) || x.Len() != 1 {
			t.Fatal(got, ok, x.Len())
		}
	}
}

func wantNone(t *testing.T, x *Index) {
	t.Helper()
	if x.Len() != 0 {
		t.Fatalf("Len is %d", x.Len())
	}
	for _, table := range []int{-1, 0, 1, 3, 4, math.MinInt, math.MaxInt} {
		for _, k := range []string{"", "a", "\xff"} {
			if got, ok := x.Find(table, k); ok || got != (Item{}) {
				t.Fatalf("Find(%d, %q) is %v, %v", table, k, got, ok)
			}
			for i := range x.Scan(table, "", k) {
				t.Fatalf("Scan(%d, \"\", %q) yields %v", table, k, i)
			}
		}
	}
	for i := range x.All {
		t.Fatalf("All yields %v", i)
	}
}

// A nil Index has nothing, and keeps nothing.
func TestNilIndex(t *testing.T) {
	var x *Index
	for range 2 {
		wantNone(t, x)
		if x.Scan(0, "", "z") == nil {
			t.Fatal("Scan answers no function")
		}
		x.Scan(0, "", "z")(nil)
		x.All(nil)
		x.Put(Item{})
		x.Put(item(key{0, "a"}, 1))
		wantNone(t, x)
		x.Remove(0, "")
		x.Remove(0, "a")
	}
}

// In whatever order rows are put (ahead of all, between, behind), each is found, and all are in order.
func TestPutInEveryOrder(t *testing.T) {
	for _, keys := range permutations([]key{{0, "b"}, {1, ""}, {1, "a"}, {1, "ab"}, {2, "a"}}) {
		g := newRig(t)
		g.check()
		for _, k := range keys {
			g.put(k)
			g.check()
		}
	}
}

// One by one ahead of, between and behind others; and in place of each.
func TestPutBesideOthers(t *testing.T) {
	for _, k := range of(1, "", "a", "b", "ba", "c", "d", "da", "e", "f", "g") {
		g := rigOf(t, of(1, "b", "d", "f")...)
		g.put(k)
		g.check()
		g.checkScan(1, "", "z")
		g.checkScan(1, k.text, k.text)
	}
}

// A row in place of another one brings its Value, Page and Slot, all of them.
func TestPutInPlace(t *testing.T) {
	keys := []key{{0, "a"}, {1, "a"}, {1, "b"}, {2, ""}}
	for _, k := range keys {
		before := item(k, 0)
		for _, after := range []Item{
			{Row: api.Row{Table: k.table, Key: k.text, Value: "other"}, Page: before.Page, Slot: before.Slot},
			{Row: before.Row, Page: 77, Slot: before.Slot},
			{Row: before.Row, Page: before.Page, Slot: 88},
			{Row: api.Row{Table: k.table, Key: k.text, Value: "other"}, Page: -1, Slot: math.MaxInt},
			{Row: api.Row{Table: k.table, Key: k.text}},
			before,
		} {
			g := rigOf(t, keys...)
			for _, i := range []Item{before, after} {
				g.x.Put(i)
				g.want[k] = i
				g.check()
				g.checkScan(k.table, k.text, k.text)
			}
		}
	}
}

func TestSameKeyInTables(t *testing.T) {
	keys := []key{{0, "a"}, {1, "a"}, {2, "a"}, {3, "a"}}
	for _, order := range permutations(keys) {
		g := rigOf(t, order...)
		g.check()
		g.put(key{2, "a"})
		g.check()
		g.remove(key{1, "a"})
		g.check()
		for table := -1; table < 5; table++ {
			g.checkScan(table, "a", "a")
		}
		g.put(key{1, "a"})
		g.check()
	}
}

func TestFind(t *testing.T) {
	g := rigOf(t, key{0, "z"}, key{1, "b"}, key{1, "d"}, key{1, "d\x00"}, key{3, ""}, key{3, "m"})
	for table := -1; table < 6; table++ {
		for _, k := range []string{"", "a", "b", "b\x00", "c", "d", "d\x00", "d\x00\x00", "da", "e", "m", "z", "zz", "\xff"} {
			g.checkFind(key{table, k})
		}
	}
	g.checkFind(key{math.MinInt, "b"})
	g.checkFind(key{math.MaxInt, "b"})
	// What is found may be changed: the index has it still.
	i, _ := g.x.Find(1, "b")
	i.Key, i.Page = "x", -5
	g.check()
}

// In whatever order rows are removed (the first, one between, the last, the only one), the others stay.
func TestRemoveInEveryOrder(t *testing.T) {
	keys := []key{{0, "b"}, {1, ""}, {1, "a"}, {1, "ab"}, {2, "a"}}
	for _, order := range permutations(keys) {
		g := rigOf(t, keys...)
		for _, k := range order {
			g.remove(k)
			g.check()
			// Once more: it isn't there.
			g.remove(k)
			g.check()
		}
		for _, k := range order {
			g.put(k)
		}
		g.check()
	}
}

func TestRemoveOfNone(t *testing.T) {
	g := rigOf(t, key{1, "b"}, key{1, "d"}, key{2, "x"}, key{3, "b"})
	for _, table := range []int{math.MinInt, -1, 0, 1, 2, 3, 4, math.MaxInt} {
		for _, k := range []string{"", "a", "b", "b\x00", "ba", "c", "d", "da", "e", "x", "y", "\xff"} {
			if _, there := g.want[key{table, k}]; there {
				continue
			}
			g.remove(key{table, k})
			g.check()
		}
	}
}

// Each pair of ends, of rows that are there and of some that aren't, in order and not, with other tables on both sides.
func TestScan(t *testing.T) {
	ends := append(awkward(), "\x00a", "aab", "abc", "bbb", "bc", "d", "k", "z", "\xff\x00", "\xff\xff\xff", strings.Repeat("z", 300))
	full := newRig(t)
	for table := range 4 {
		for _, k := range awkward() {
			full.put(key{table, k})
		}
	}
	alone := rigOf(t, of(1, awkward()...)...)
	beside := rigOf(t, append(of(0, awkward()...), of(2, awkward()...)...)...)
	some := rigOf(t, key{0, "zz"}, key{1, "a"}, key{1, "b"}, key{1, "c"}, key{2, ""}, key{2, "b"})
	for _, g := range []*rig{full, alone, beside, some} {
		g.check()
		for _, from := range ends {
			for _, to := range ends {
				for table := -1; table < 5; table++ {
					g.checkScan(table, from, to)
				}
				g.checkScan(math.MinInt, from, to)
				g.checkScan(math.MaxInt, from, to)
			}
		}
	}
}

func TestScanKnown(t *testing.T) {
	g := rigOf(t, key{0, "a"}, key{0, "z"}, key{1, ""}, key{1, "a"}, key{1, "aa"}, key{1, "b"}, key{1, "bb"}, key{1, "d"}, key{2, ""}, key{2, "b"})
	for _, c := range []struct {
		table          int
		from, to, want string
	}{
		{1, "", "", ""},
		{1, "", "a", " a"},
		{1, "", "\xff", " a aa b bb d"},
		{1, "a", "a", "a"},
		{1, "a", "aa", "a aa"},
		{1, "a", "ab", "a aa"},
		{1, "a\x00", "b", "aa b"},
		{1, "b", "d", "b bb d"},
		{1, "b", "cz", "b bb"},
		{1, "ba", "c", "bb"},
		{1, "c", "c", ""},
		{1, "bc", "c", ""},
		{1, "d", "z", "d"},
		{1, "e", "z", ""},
		{1, "d", "b", ""},
		{1, "d", "", ""},
		{1, "z", "a", ""},
		{0, "", "\xff", "a z"},
		{0, "b", "y", ""},
		{2, "", "a", ""},
		{2, "a", "b", "b"},
		{3, "", "\xff", ""},
		{-1, "", "\xff", ""},
		{4, "", "\xff", ""},
	} {
		got := slices.Collect(g.x.Scan(c.table, c.from, c.to))
		if keysOf(got) != c.want {
			t.Errorf("Scan(%d, %q, %q) yields %q, want %q", c.table, c.from, c.to, keysOf(got), c.want)
		}
	}
	// The empty text joins to nothing: how many rows there were tells the two apart.
	for table, n := range []int{0, 1, 1, 0} {
		if got := slices.Collect(g.x.Scan(table, "", "")); len(got) != n {
			t.Errorf("Scan(%d, \"\", \"\") yields %v", table, got)
		}
	}
}

// A walk that is stopped behind any number of rows has yielded just these, and calls yield no more.
func TestStopped(t *testing.T) {
	g := rigOf(t, key{0, "x"}, key{1, ""}, key{1, "a"}, key{1, "b"}, key{1, "c"}, key{2, ""}, key{3, "y"})
	for name, c := range map[string]struct {
		walk func(yield func(Item) bool)
		want []Item
	}{
		"All":                        {g.x.All, g.all()},
		"Scan":                       {g.x.Scan(1, "a", "c"), g.within(1, "a", "c")},
		"Scan to the end of a table": {g.x.Scan(1, "", "\xff"), g.within(1, "", "\xff")},
		"Scan of one":                {g.x.Scan(3, "y", "y"), g.within(3, "y", "y")},
		"Scan of none":               {g.x.Scan(1, "c", "a"), nil},
	} {
		for stop := 1; stop <= len(c.want)+1; stop++ {
			var got []Item
			c.walk(func(i Item) bool {
				got = append(got, i)
				return len(got) != stop
			})
			if !slices.Equal(got, c.want[:min(stop, len(c.want))]) {
				t.Errorf("%s, stopped at %d: %v", name, stop, got)
			}
		}
		if name == "Scan of none" {
			continue
		}
		// By break, at once.
		for i := range c.walk {
			if i != c.want[0] {
				t.Errorf("%s: %v comes first", name, i)
			}
			break
		}
	}
	g.check()
}

func TestAllInOrder(t *testing.T) {
	var keys []key
	for _, table := range []int{3, -1, 0, math.MaxInt, 2, 4, math.MinInt, 1, 10} {
		keys = append(keys, of(table, awkward()...)...)
	}
	for seed := range int64(20) {
		rand.New(rand.NewSource(seed)).Shuffle(len(keys), func(i, j int) { keys[i], keys[j] = keys[j], keys[i] })
		g := rigOf(t, keys...)
		g.check()
		for _, k := range keys[:len(keys)/2] {
			g.remove(k)
		}
		g.check()
	}
}

func TestLen(t *testing.T) {
	var x Index
	for n, step := range []struct {
		put   bool
		table int
		key   string
		want  int
	}{
		{false, 0, "a", 0},
		{true, 0, "a", 1},
		{true, 0, "a", 1},
		{true, 1, "a", 2},
		{true, 0, "", 3},
		{false, 2, "a", 3},
		{false, 0, "b", 3},
		{false, 0, "a", 2},
		{false, 0, "a", 2},
		{true, 0, "a", 3},
		{false, 0, "", 2},
		{false, 1, "a", 1},
		{false, 0, "a", 0},
		{false, 0, "a", 0},
		{true, 3, "z", 1},
	} {
		if step.put {
			x.Put(item(key{step.table, step.key}, n))
		} else {
			x.Remove(step.table, step.key)
		}
		if x.Len() != step.want {
			t.Fatalf("behind step %d Len is %d, want %d", n, x.Len(), step.want)
		}
	}
}

// A walk that was made may be gone over again, and goes over what is there then.
func TestScanAgain(t *testing.T) {
	g := rigOf(t, of(1, "a", "c")...)
	walk := g.x.Scan(1, "a", "c")
	steps := []func(){
		func() {},
		func() {},
		func() { g.put(key{1, "b"}) },
		func() { g.put(key{1, "d"}) },
		func() { g.remove(key{1, "a"}) },
		func() { g.put(key{1, "c"}) },
		func() { g.remove(key{1, "b"}); g.remove(key{1, "c"}) },
	}
	for n, step := range steps {
		step()
		if got, want := slices.Collect(walk), g.within(1, "a", "c"); !slices.Equal(got, want) {
			t.Fatalf("step %d: %v, want %v", n, got, want)
		}
	}
}

// What yield changes doesn't disturb the walk that calls it: this one goes over what was there when it began, and ends.
func TestChangesOnTheWay(t *testing.T) {
	keys := append(of(0, "x"), append(of(1, "a", "b", "c", "d"), of(2, "a")...)...)
	for name, change := range map[string]func(*rig, Item){
		"it is removed":          func(g *rig, i Item) { g.remove(key{i.Table, i.Key}) },
		"it is replaced":         func(g *rig, i Item) { g.put(key{i.Table, i.Key}) },
		"one behind is put":      func(g *rig, i Item) { g.put(key{i.Table, i.Key + "\x00"}) },
		"one ahead is put":       func(g *rig, i Item) { g.put(key{i.Table, i.Key[:len(i.Key)-1]}) },
		"the first is removed":   func(g *rig, i Item) { g.remove(key{0, "x"}) },
		"the last is removed":    func(g *rig, i Item) { g.remove(key{2, "a"}) },
		"one ahead of all":       func(g *rig, i Item) { g.put(key{-g.puts, ""}) },
		"one behind all":         func(g *rig, i Item) { g.put(key{g.puts, ""}) },
		"all are removed":        func(g *rig, i Item) { removeAll(g, keys) },
		"it is walked once more": func(g *rig, i Item) { g.check(); g.checkScan(1, "b", "d") },
	} {
		for _, walked := range []struct {
			walk func(*rig) func(func(Item) bool)
			want func(*rig) []Item
		}{
			{func(g *rig) func(func(Item) bool) { return g.x.All }, (*rig).all},
			{func(g *rig) func(func(Item) bool) { return g.x.Scan(1, "b", "d") }, func(g *rig) []Item { return g.within(1, "b", "d") }},
			{func(g *rig) func(func(Item) bool) { return g.x.Scan(1, "", "\xff") }, func(g *rig) []Item { return g.within(1, "", "\xff") }},
		} {
			g := rigOf(t, keys...)
			want := walked.want(g)
			var got []Item
			for i := range walked.walk(g) {
				got = append(got, i)
				change(g, i)
			}
			if !slices.Equal(got, want) {
				t.Errorf("%s: %v, want %v", name, got, want)
			}
			g.check()
		}
	}
}

func removeAll(g *rig, keys []key) {
	for _, k := range keys {
		g.remove(k)
	}
}

// A walk without yield has nobody to tell.
func TestWithoutYield(t *testing.T) {
	g := rigOf(t, of(1, "a", "b")...)
	g.x.All(nil)
	g.x.Scan(1, "a", "b")(nil)
	g.check()
}

// Two indexes know nothing of each other.
func TestTwoIndexes(t *testing.T) {
	a, b := newRig(t), newRig(t)
	for _, k := range of(1, "c", "a", "b") {
		a.put(k)
		b.check()
	}
	b.put(key{1, "a"})
	b.put(key{1, "a"})
	a.remove(key{1, "c"})
	a.check()
	b.check()
}

// Many calls, in an order that is the same in every run, against what should be there.
func TestManyCalls(t *testing.T) {
	for seed := range int64(30) {
		chance := rand.New(rand.NewSource(seed))
		texts := awkward()[:1+chance.Intn(len(awkward()))]
		one := func() key { return key{chance.Intn(4), texts[chance.Intn(len(texts))]} }
		g := newRig(t)
		for range 400 {
			// Now mostly put, now mostly removed, so that it is full and empty at times.
			if chance.Intn(100) < 20+60*(g.puts/40%2) {
				g.remove(one())
			} else {
				g.put(one())
			}
			g.checkFind(one())
			from, to := one(), one()
			g.checkScan(from.table, from.text, to.text)
		}
		g.check()
	}
}
