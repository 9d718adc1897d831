package lock

import (
	"math"
	"math/rand"
	"slices"
	"strconv"
	"strings"
	"testing"
)

// A call of Locks, as data.
type call struct {
	name   string // Key, Table or Drop
	who    int
	table  int
	key    string
	change bool
}

func read(who, table int, key string) call   { return call{"Key", who, table, key, false} }
func change(who, table int, key string) call { return call{"Key", who, table, key, true} }
func readAll(who, table int) call            { return call{name: "Table", who: who, table: table} }
func drop(who int) call                      { return call{name: "Drop", who: who} }

// do makes the call; of Drop, which answers nothing: true.
func (c call) do(l *Locks) bool {
	switch c.name {
	case "Key":
		return l.Key(c.who, c.table, c.key, c.change)
	case "Table":
		return l.Table(c.who, c.table)
	}
	l.Drop(c.who)
	return true
}

func (c call) String() string {
	who, table := strconv.Itoa(c.who), strconv.Itoa(c.table)
	switch c.name {
	case "Key":
		return "Key(" + who + ", " + table + ", " + strconv.Quote(c.key) + ", " + strconv.FormatBool(c.change) + ")"
	case "Table":
		return "Table(" + who + ", " + table + ")"
	}
	return "Drop(" + who + ")"
}

// story tells calls, one behind the other.
func story(calls []call) string {
	var all []string
	for _, c := range calls {
		all = append(all, c.String())
	}
	return strings.Join(all, " ")
}

// A model is what is held, line by line, as the chapter's words have it: an owner, a thing, a mode.
type model []line

type line struct {
	who  int
	of   string // the thing, written out
	mode int
}

// key and table write a thing out; no two things alike.
func keyOf(table int, key string) string { return "key " + strconv.Itoa(table) + " " + key }
func tableOf(table int) string           { return "table " + strconv.Itoa(table) }

// next: the model behind a call, and what the call answers.
func (m model) next(c call) (model, bool) {
	switch {
	case c.name == "Key" && c.change:
		some, ok := m.locked(c.who, tableOf(c.table), 2)
		if !ok {
			return m, false
		}
		both, ok := some.locked(c.who, keyOf(c.table, c.key), 3)
		if !ok {
			return m, false
		}
		return both, true
	case c.name == "Key":
		return m.locked(c.who, keyOf(c.table, c.key), 1)
	case c.name == "Table":
		return m.locked(c.who, tableOf(c.table), 1)
	}
	return slices.DeleteFunc(slices.Clone(m), func(x line) bool { return x.who == c.who }), true
}

// locked: the model with one more thing locked, or as it was, and false.
func (m model) locked(who int, of string, mode int) (model, bool) {
	for _, x := range m {
		if x.who == who && x.of == of && x.mode != mode {
			mode = 3
		}
	}
	for _, x := range m {
		if x.who != who && x.of == of && !(x.mode == 1 && mode == 1) && !(x.mode == 2 && mode == 2) {
			return m, false
		}
	}
	rest := slices.DeleteFunc(slices.Clone(m), func(x line) bool { return x.who == who && x.of == of })
	return append(rest, line{who, of, mode}), true
}

// len: how many things there are in the model, each once.
func (m model) len() int {
	things := map[string]int{}
	for _, x := range m {
		things[x.of]++
	}
	return len(things)
}

// built: locks behind these calls.
func built(calls []call) *Locks {
	l := New()
	for _, c := range calls {
		c.do(l)
	}
	return l
}

// A step is a call, what it answers, and Len behind it.
type step struct {
	call
	want bool
	len  int
}

// run makes steps, one behind the other, holding each against what it wants; and the model against it as well.
func run(t *testing.T, steps ...step) {
	t.Helper()
	l := New()
	var m model
	var calls []call
	if l.Len() != 0 {
		t.Fatalf("Len of new locks is %d", l.Len())
	}
	for _, s := range steps {
		calls = append(calls, s.call)
		if got := s.do(l); got != s.want {
			t.Fatalf("%s: the last one is %v", story(calls), got)
		}
		if l.Len() != s.len {
			t.Fatalf("%s: Len is %d, want %d", story(calls), l.Len(), s.len)
		}
		var ok bool
		if m, ok = m.next(s.call); s.name != "Drop" && ok != s.want || m.len() != s.len {
			t.Fatalf("%s: the model is wrong: %v, %v", story(calls), m, ok)
		}
	}
}

func TestModes(t *testing.T) {
	if Read != 1 || Some != 2 || Write != 3 {
		t.Fatal(Read, Some, Write)
	}
}

func TestExample(t *testing.T) {
	l := New()
	if !l.Key(1, 0, "a", true) || l.Table(2, 0) {
		t.Fatal()
	}
}

func TestNew(t *testing.T) {
	for _, c := range []call{read(1, 0, "a"), change(1, 0, "a"), readAll(1, 0)} {
		l := New()
		if l == nil || l.Len() != 0 || !c.do(l) || l.Len() == 0 {
			t.Fatal(c)
		}
	}
}

// A key that is read lets readers, however many, and nobody who changes it.
func TestKeyRead(t *testing.T) {
	run(t,
		step{read(1, 0, "a"), true, 1},
		step{read(2, 0, "a"), true, 1},
		step{read(3, 0, "a"), true, 1},
		step{change(1, 0, "a"), false, 1},
		step{change(2, 0, "a"), false, 1},
		step{change(4, 0, "a"), false, 1},
		step{drop(2), true, 1},
		step{change(1, 0, "a"), false, 1},
		step{drop(3), true, 1},
		step{change(4, 0, "a"), false, 1},
		step{change(1, 0, "a"), true, 2}, // as the only reader
		step{read(2, 0, "a"), false, 2},
	)
}

// A key that one changes lets nobody else.
func TestKeyChanged(t *testing.T) {
	run(t,
		step{change(1, 0, "a"), true, 2},
		step{read(2, 0, "a"), false, 2},
		step{change(2, 0, "a"), false, 2},
		step{read(1, 0, "a"), true, 2},
		step{change(1, 0, "a"), true, 2},
		step{read(2, 0, "a"), false, 2}, // reading it leaves it as Write
		step{drop(1), true, 0},
		step{read(2, 0, "a"), true, 1},
	)
}

// A table lets any number of readers.
func TestTableRead(t *testing.T) {
	run(t,
		step{readAll(1, 2), true, 1},
		step{readAll(2, 2), true, 1},
		step{readAll(3, 2), true, 1},
		step{change(1, 2, "a"), false, 1},
		step{change(4, 2, "a"), false, 1},
		step{read(4, 2, "a"), true, 2}, // which doesn't lock the table
		step{change(4, 1, "a"), true, 4},
		step{readAll(1, 1), false, 4},
	)
}

// A table lets any number of those who change keys of their own.
func TestTableChanged(t *testing.T) {
	run(t,
		step{change(1, 0, "a"), true, 2},
		step{change(2, 0, "b"), true, 3},
		step{change(3, 0, "c"), true, 4},
		step{change(2, 0, "d"), true, 5},
		step{change(2, 0, "c"), false, 5},
		step{read(2, 0, "a"), false, 5},
		step{readAll(1, 0), false, 5},
		step{readAll(4, 0), false, 5},
		step{drop(2), true, 3},
		step{readAll(1, 0), false, 3},
		step{drop(3), true, 2},
		step{readAll(4, 0), false, 2},
		step{readAll(1, 0), true, 2}, // as the only one who changes it
		step{change(2, 0, "b"), false, 2},
		step{readAll(2, 0), false, 2},
	)
}

// A table that one reads and changes at once is held as Write, in either order, and stays so, whatever is asked for again.
func TestTableReadAndChanged(t *testing.T) {
	for _, first := range []call{readAll(1, 0), change(1, 0, "a")} {
		then := change(1, 0, "a")
		n := 1
		if first == then {
			then, n = readAll(1, 0), 2
		}
		for _, again := range []call{readAll(1, 0), change(1, 0, "a"), read(1, 0, "a")} {
			run(t,
				step{first, true, n},
				step{then, true, 2},
				step{readAll(2, 0), false, 2},
				step{change(2, 0, "b"), false, 2},
				step{again, true, 2},
				step{readAll(2, 0), false, 2},
				step{change(2, 0, "b"), false, 2},
				step{read(2, 0, "b"), true, 3},
				step{change(1, 0, "c"), true, 4},
				step{change(1, 0, "b"), false, 4},
				step{readAll(2, 0), false, 4},
				step{drop(1), true, 1},
				step{readAll(2, 0), true, 2},
				step{readAll(3, 0), true, 2},
			)
		}
	}
}

// One who reads the table beside others can't change a key of it, and one who changes keys beside others can't read it.
func TestOtherModeBesideOthers(t *testing.T) {
	run(t,
		step{readAll(1, 0), true, 1},
		step{readAll(2, 0), true, 1},
		step{change(1, 0, "a"), false, 1},
		step{readAll(1, 0), true, 1},
		step{readAll(3, 0), true, 1}, // it is held as Read still
		step{drop(2), true, 1},
		step{drop(3), true, 1},
		step{change(1, 0, "a"), true, 2},
	)
	run(t,
		step{change(1, 0, "a"), true, 2},
		step{change(2, 0, "b"), true, 3},
		step{readAll(1, 0), false, 3},
		step{change(3, 0, "c"), true, 4}, // it is held as Some still
		step{change(1, 0, "d"), true, 5},
		step{drop(2), true, 4},
		step{drop(3), true, 3},
		step{readAll(1, 0), true, 3},
	)
}

// Key with change that is prevented at the table leaves the key as it was: others may have it.
func TestPreventedAtTheTable(t *testing.T) {
	run(t,
		step{readAll(1, 0), true, 1},
		step{change(2, 0, "a"), false, 1},
		step{read(3, 0, "a"), true, 2},
		step{change(1, 0, "b"), true, 3},
		step{change(2, 0, "c"), false, 3},
		step{change(1, 0, "c"), true, 4},
	)
	// And one who had read it reads it still, beside others.
	run(t,
		step{readAll(1, 0), true, 1},
		step{read(2, 0, "a"), true, 2},
		step{change(2, 0, "a"), false, 2},
		step{read(3, 0, "a"), true, 2},
	)
}

// Key with change that is prevented at the key leaves the table as it was, as nobody's, as Read, as Some.
func TestPreventedAtTheKey(t *testing.T) {
	run(t,
		step{read(1, 0, "a"), true, 1},
		step{change(2, 0, "a"), false, 1},
		step{readAll(3, 0), true, 2},
		step{drop(3), true, 1},
		step{change(1, 0, "a"), true, 2},
		step{readAll(2, 0), false, 2},
	)
	run(t,
		step{readAll(2, 0), true, 1},
		step{read(1, 0, "a"), true, 2},
		step{change(2, 0, "a"), false, 2},
		step{readAll(3, 0), true, 2}, // 2 holds it as Read, not as Write
	)
	run(t,
		step{change(2, 0, "b"), true, 2},
		step{read(1, 0, "a"), true, 3},
		step{change(2, 0, "a"), false, 3},
		step{change(3, 0, "c"), true, 4}, // 2 holds it as Some, not as Write
	)
	run(t,
		step{change(1, 0, "a"), true, 2},
		step{change(2, 0, "a"), false, 2},
		step{readAll(1, 0), true, 2}, // 2 doesn't hold it as Some
	)
}

// The same thing asked for again, in the same mode: it is held as it was, once.
func TestSameModeAgain(t *testing.T) {
	run(t,
		step{read(1, 0, "a"), true, 1},
		step{read(1, 0, "a"), true, 1},
		step{read(2, 0, "a"), true, 1},
		step{read(1, 0, "a"), true, 1},
		step{drop(1), true, 1},
		step{change(3, 0, "a"), false, 1},
		step{drop(2), true, 0},
		step{change(3, 0, "a"), true, 2},
	)
	run(t,
		step{readAll(1, 0), true, 1},
		step{readAll(1, 0), true, 1},
		step{readAll(2, 0), true, 1},
		step{drop(1), true, 1},
		step{drop(2), true, 0},
	)
	run(t,
		step{change(1, 0, "a"), true, 2},
		step{change(1, 0, "a"), true, 2},
		step{change(1, 0, "b"), true, 3},
		step{change(2, 0, "c"), true, 4}, // the table is held as Some by 1, as it was
		step{drop(1), true, 2},
		step{drop(2), true, 0},
	)
}

// Keys that are unlike are things of their own, however alike they look.
func TestUnlikeKeys(t *testing.T) {
	keys := []string{
		"", "\x00", "\x00\x00", " ", "a", "A", "a\x00", "\x00a", "a ", " a", "aa", "b", "0", "00", "1", "10", "\x7f", "\x80", "\xff", "\xff\xff",
		"ß", "ss", "\u00e9", "e\u0301", "key 0 a", "table 0", strings.Repeat("k", 15), strings.Repeat("k", 16), strings.Repeat("k", 3000), strings.Repeat("k", 3001),
	}
	for _, hold := range []func(who, table int, key string) call{read, change} {
		l := New()
		tables := 0
		if hold(0, 0, "").change {
			tables = 1
		}
		for n, k := range keys {
			if !hold(n, 0, k).do(l) || l.Len() != tables+n+1 {
				t.Fatalf("%s: Len is %d", hold(n, 0, k), l.Len())
			}
		}
		for n, k := range keys {
			if change(n+1, 0, k).do(l) || change(-1, 0, k).do(l) || l.Len() != tables+len(keys) {
				t.Fatalf("%q: Len is %d", k, l.Len())
			}
		}
		for n, k := range keys {
			l.Drop(n)
			if !l.Key(n+1, 0, k, true) {
				t.Fatalf("%q was dropped", k)
			}
			l.Drop(n + 1)
			// The one behind it was dropped with that, and comes back.
			if n+1 < len(keys) && !hold(n+1, 0, keys[n+1]).do(l) {
				t.Fatalf("%q", keys[n+1])
			}
		}
		if l.Len() != 0 {
			t.Fatal(l.Len())
		}
	}
}

// The same key in two tables is two things, and so are the tables.
func TestTwoTables(t *testing.T) {
	run(t,
		step{change(1, 0, "a"), true, 2},
		step{change(2, 1, "a"), true, 4},
		step{read(3, 2, "a"), true, 5},
		step{readAll(3, 0), false, 5},
		step{readAll(3, 1), false, 5},
		step{readAll(3, 2), true, 6},
		step{read(1, 1, "a"), false, 6},
		step{read(2, 0, "a"), false, 6},
		step{readAll(1, 1), false, 6},
		step{change(1, 2, "b"), false, 6},
		step{drop(1), true, 4},
		step{change(2, 0, "a"), true, 6},
	)
	// A table's number and a key don't run together.
	run(t,
		step{read(1, 1, "1"), true, 1},
		step{read(1, 11, ""), true, 2},
		step{read(1, 1, "11"), true, 3},
		step{read(1, 11, "1"), true, 4},
		step{change(2, 111, ""), true, 6},
	)
}

// The empty key is a key, beside its table.
func TestEmptyKey(t *testing.T) {
	run(t,
		step{read(1, 0, ""), true, 1},
		step{readAll(2, 0), true, 2},
		step{change(1, 0, ""), false, 2},
		step{drop(2), true, 1},
		step{change(2, 0, "a"), true, 3},
		step{change(1, 0, ""), true, 3},
		step{change(2, 0, ""), false, 3},
		step{read(2, 0, ""), false, 3},
		step{change(2, 0, "b"), true, 4}, // the table is held as Some
	)
	run(t,
		step{readAll(1, 0), true, 1},
		step{read(2, 0, ""), true, 2},
		step{readAll(2, 0), true, 2},
		step{drop(2), true, 1},
		step{change(1, 0, ""), true, 2},
		step{read(2, 0, ""), false, 2},
	)
}

func TestDrop(t *testing.T) {
	// Of one who holds nothing, ahead of all and later.
	run(t,
		step{drop(1), true, 0},
		step{readAll(1, 0), true, 1},
		step{read(1, 1, "a"), true, 2},
		step{drop(2), true, 2},
		step{drop(0), true, 2},
		step{drop(-1), true, 2},
		step{change(2, 0, "a"), false, 2},
		step{change(2, 1, "a"), false, 2},
		step{drop(1), true, 0},
		step{drop(1), true, 0},
	)
	// Of one of several who hold the same things; all that it holds, and nothing else.
	run(t,
		step{readAll(1, 0), true, 1},
		step{readAll(2, 0), true, 1},
		step{read(1, 0, "a"), true, 2},
		step{read(2, 0, "a"), true, 2},
		step{change(1, 1, "b"), true, 4},
		step{change(2, 1, "c"), true, 5},
		step{read(1, 2, ""), true, 6},
		step{change(1, 3, "z"), true, 8},
		step{drop(1), true, 4},
		step{change(3, 0, "b"), false, 4},
		step{change(3, 0, "a"), false, 4},
		step{readAll(3, 1), false, 4},
		step{change(3, 1, "c"), false, 4},
		step{change(3, 1, "b"), true, 5},
		step{change(3, 2, ""), true, 7},
		step{readAll(3, 3), true, 8},
		step{drop(3), true, 4},
		step{drop(2), true, 0},
	)
	// Of the only one: what it held as Write doesn't stay so for the next one.
	run(t,
		step{readAll(1, 0), true, 1},
		step{change(1, 0, "a"), true, 2},
		step{drop(1), true, 0},
		step{read(1, 0, "a"), true, 1},
		step{read(2, 0, "a"), true, 1},
		step{readAll(1, 0), true, 2},
		step{readAll(2, 0), true, 2},
		step{drop(1), true, 2},
		step{drop(2), true, 0},
		step{change(1, 0, "a"), true, 2},
		step{change(2, 0, "b"), true, 3},
	)
}

// Any integer is an owner, and a table.
func TestAnyIntegers(t *testing.T) {
	numbers := []int{math.MinInt, math.MinInt + 1, -1 << 32, -1, 0, 1, 3, 4, 1 << 32, math.MaxInt - 1, math.MaxInt}
	for _, who := range numbers {
		l := New()
		for n, table := range numbers {
			if !l.Table(who, table) || l.Len() != 3*n+1 || !l.Key(who, table, "a", false) || !l.Key(who, table, "b", true) || l.Len() != 3*n+3 {
				t.Fatal(who, table, l.Len())
			}
		}
		for _, other := range numbers {
			if other == who {
				continue
			}
			l.Drop(other)
			for _, table := range numbers {
				if l.Table(other, table) || l.Key(other, table, "b", false) || l.Key(other, table, "a", true) || !l.Key(other, table, "a", false) {
					t.Fatal(who, other, table)
				}
			}
			if l.Len() != 3*len(numbers) {
				t.Fatal(who, other, l.Len())
			}
		}
		for _, each := range numbers {
			l.Drop(each)
		}
		if l.Len() != 0 {
			t.Fatal(who, l.Len())
		}
	}
}

func TestNil(t *testing.T) {
	var l *Locks
	for range 2 {
		for _, who := range []int{math.MinInt, -1, 0, 1, math.MaxInt} {
			for _, table := range []int{math.MinInt, -1, 0, 3, 4, math.MaxInt} {
				for _, k := range []string{"", "a", "\xff"} {
					if l.Key(who, table, k, false) || l.Key(who, table, k, true) {
						t.Fatal(who, table, k)
					}
				}
				if l.Table(who, table) {
					t.Fatal(who, table)
				}
			}
			l.Drop(who)
			if l.Len() != 0 {
				t.Fatal(l.Len())
			}
		}
	}
}

// Two Locks know nothing of each other.
func TestTwoLocks(t *testing.T) {
	a, b := New(), New()
	if !a.Key(1, 0, "a", true) || b.Len() != 0 || !b.Key(2, 0, "a", true) || !b.Table(2, 0) || a.Len() != 2 || b.Len() != 2 {
		t.Fatal(a.Len(), b.Len())
	}
	a.Drop(2)
	b.Drop(1)
	if a.Table(2, 0) || b.Table(1, 0) || a.Len() != 2 || b.Len() != 2 {
		t.Fatal(a.Len(), b.Len())
	}
	a.Drop(1)
	if a.Len() != 0 || b.Len() != 2 || b.Key(1, 0, "a", false) {
		t.Fatal(a.Len(), b.Len())
	}
}

// ask: all calls of these owners on these tables and keys.
func ask(owners, tables []int, keys []string) []call {
	var all []call
	for _, who := range owners {
		for _, table := range tables {
			all = append(all, readAll(who, table))
			for _, k := range keys {
				all = append(all, read(who, table, k), change(who, table, k))
			}
		}
		all = append(all, drop(who))
	}
	return all
}

// Every story of so many calls, each of which is told by the chapter's words.
func TestEveryStory(t *testing.T) {
	for _, c := range []struct {
		calls []call
		depth int
	}{
		{ask([]int{1, 2}, []int{0}, []string{"a"}), 6},
		{ask([]int{1, 2, 3}, []int{0}, []string{""}), 5},
		{ask([]int{1, 2}, []int{0}, []string{"a", "b"}), 5},
		{ask([]int{1, 2}, []int{0, 1}, []string{"a"}), 4},
	} {
		everyStory(t, c.calls, nil, nil, c.depth)
	}
}

// everyStory goes on from a story in all ways.
func everyStory(t *testing.T, calls, told []call, m model, depth int) {
	t.Helper()
	if depth == 0 {
		return
	}
	for _, c := range calls {
		l := built(told)
		want, ok := m.next(c)
		longer := append(told[:len(told):len(told)], c)
		if got := c.do(l); got != ok || l.Len() != want.len() {
			t.Fatalf("%s: the last one is %v, want %v; Len is %d, want %d", story(longer), got, ok, l.Len(), want.len())
		}
		everyStory(t, calls, longer, want, depth-1)
	}
}

// Long stories, which are the same in every run.
func TestLongStories(t *testing.T) {
	for seed := range int64(60) {
		chance := rand.New(rand.NewSource(seed))
		calls := ask([]int{-1, 0, 1, 2, 3}[:2+chance.Intn(4)], []int{0, 1, 2, 3}[:1+chance.Intn(4)], []string{"", "a", "b", "bb", "c"}[:1+chance.Intn(5)])
		l := New()
		var m model
		for n := range 1500 {
			c := calls[chance.Intn(len(calls))]
			if c.name == "Drop" && chance.Intn(4) > 0 {
				continue
			}
			var ok bool
			m, ok = m.next(c)
			if got := c.do(l); got != ok || l.Len() != m.len() {
				t.Fatalf("seed %d, call %d, %s: %v, want %v; Len is %d, want %d", seed, n, c, got, ok, l.Len(), m.len())
			}
		}
		for who := -1; who <= 3; who++ {
			l.Drop(who)
		}
		if l.Len() != 0 {
			t.Fatalf("seed %d: Len is %d behind all", seed, l.Len())
		}
	}
}

// Many owners of one thing, and many things of one owner.
func TestMany(t *testing.T) {
	const many = 20000
	l := New()
	for who := range many {
		if !l.Key(who, 0, "a", false) || !l.Table(who, 1) || l.Len() != 2 {
			t.Fatal(who, l.Len())
		}
	}
	for who := range many - 1 {
		l.Drop(who)
		if who%1000 == 0 && (l.Len() != 2 || l.Key(-1, 0, "a", true) || l.Key(-1, 1, "a", true)) {
			t.Fatal(who)
		}
	}
	if !l.Key(many-1, 0, "a", true) || !l.Key(many-1, 1, "a", true) || l.Len() != 4 {
		t.Fatal(l.Len())
	}
	for n := range many {
		if !l.Key(many-1, 2, strconv.Itoa(n), true) || l.Len() != n+6 {
			t.Fatal(n, l.Len())
		}
	}
	l.Drop(many - 1)
	if l.Len() != 0 {
		t.Fatal(l.Len())
	}
}
