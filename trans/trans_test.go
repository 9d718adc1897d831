package trans

import (
	"math"
	"slices"
	"strconv"
	"strings"
	"testing"

	"tenement/api"
)

// change: the nth change, unlike all others up to the thirtieth; each third one has no Before.
func change(n int) Change {
	c := Change{Page: n % api.Pages, Slot: n % api.Slots}
	if n%3 != 0 {
		c.Before = "b" + strconv.Itoa(n)
	}
	return c
}

// changes: those from one on up to, but not with, another one.
func changes(from, to int) []Change {
	var l []Change
	for n := from; n < to; n++ {
		l = append(l, change(n))
	}
	return l
}

// begun: a table's transaction with its number, begun and filled by Push.
func begun(t *testing.T, l ...Change) *Txn {
	t.Helper()
	var x Table
	if n := x.Begin(); n != 1 {
		t.Fatalf("the first Begin is %d", n)
	}
	y := x.Get(1)
	for _, c := range l {
		y.Push(c)
	}
	return y
}

// loaded: a table's transaction with these changes, by Load.
func loaded(l ...Change) *Txn {
	var x Table
	x.Load(2, l)
	return x.Get(2)
}

// wrong: numbers that no transaction has.
func wrong() []int {
	return []int{math.MinInt, -api.MaxOpen, -2, -1, 0, api.MaxOpen + 1, api.MaxOpen + 2, 2 * api.MaxOpen, 256, 257, 1 << 32, 1<<32 + 1, math.MaxInt}
}

func wantChanges(t *testing.T, x *Txn, want ...Change) {
	t.Helper()
	if x.Len() != len(want) || !slices.Equal(x.List(), want) {
		t.Fatalf("it has %d changes, %v; want %v", x.Len(), x.List(), want)
	}
}

func wantSave(t *testing.T, x *Txn, want int) {
	t.Helper()
	if got := x.Save(); got != want {
		t.Fatalf("Save is %d, want %d", got, want)
	}
}

func wantBack(t *testing.T, x *Txn, save, want int) {
	t.Helper()
	if got, ok := x.Back(save); got != want || !ok {
		t.Fatalf("Back(%d) is %d, %v; want %d", save, got, ok, want)
	}
}

func wantNoBack(t *testing.T, x *Txn, saves ...int) {
	t.Helper()
	for _, save := range saves {
		if got, ok := x.Back(save); got != 0 || ok {
			t.Fatalf("Back(%d) is %d, %v", save, got, ok)
		}
	}
}

func wantPop(t *testing.T, x *Txn, want Change) {
	t.Helper()
	if got, ok := x.Pop(); got != want || !ok {
		t.Fatalf("Pop is %v, %v; want %v", got, ok, want)
	}
}

// wantOpen holds all that tells which are open against these numbers, in ascending order.
func wantOpen(t *testing.T, x *Table, want ...int) {
	t.Helper()
	if x.Open() != len(want) {
		t.Fatalf("Open is %d, want %v", x.Open(), want)
	}
	var got []int
	for n, y := range x.All {
		if y == nil || y != x.Get(n) {
			t.Fatalf("All yields %d with what isn't Get of it", n)
		}
		got = append(got, n)
	}
	if !slices.Equal(got, want) {
		t.Fatalf("All yields %v, want %v", got, want)
	}
	for n := -1; n <= api.MaxOpen+1; n++ {
		if (x.Get(n) != nil) != slices.Contains(want, n) {
			t.Fatalf("Get(%d) is %v, open are %v", n, x.Get(n), want)
		}
	}
}

// set: the slots that Kept told, each once, in ascending order.
func set(slots []int) []int {
	slots = slices.Clone(slots)
	slices.Sort(slots)
	return slices.Compact(slots)
}

func wantKept(t *testing.T, x *Table, page int, want ...int) {
	t.Helper()
	if got := set(x.Kept(page)); !slices.Equal(got, want) {
		t.Fatalf("Kept(%d) is %v, want %v", page, got, want)
	}
}

func TestExample(t *testing.T) {
	var x Table
	for _, want := range []int{1, 2, 3, 0} {
		if got := x.Begin(); got != want {
			t.Fatalf("Begin is %d, want %d", got, want)
		}
	}
}

func TestZeroTable(t *testing.T) {
	for _, x := range []*Table{{}, new(Table)} {
		wantOpen(t, x)
		if x.Changes() != 0 {
			t.Fatal(x.Changes())
		}
		for page := -1; page <= api.Pages; page++ {
			wantKept(t, x, page)
		}
		for _, n := range append(wrong(), 1, 2, 3) {
			if x.Get(n) != nil {
				t.Fatal(n)
			}
			x.End(n)
		}
		wantOpen(t, x)
		if x.Begin() != 1 {
			t.Fatal()
		}
	}
}

// numbers: those from 1 to MaxOpen whose bit is set.
func numbers(bits int) []int {
	var l []int
	for n := 1; n <= api.MaxOpen; n++ {
		if bits>>(n-1)&1 == 1 {
			l = append(l, n)
		}
	}
	return l
}

// with: a table with these open, begun and ended, or loaded, each with a change of its own and a savepoint.
func with(t *testing.T, open []int, load bool) *Table {
	t.Helper()
	x := new(Table)
	for n := 1; n <= api.MaxOpen; n++ {
		if !load && x.Begin() != n {
			t.Fatal(n)
		}
	}
	for n := api.MaxOpen; n >= 1; n-- {
		switch isOpen := slices.Contains(open, n); {
		case isOpen && load:
			x.Load(n, nil)
		case !isOpen:
			x.End(n)
			continue
		}
		x.Get(n).Push(change(n))
		wantSave(t, x.Get(n), 1)
	}
	wantOpen(t, x, open...)
	return x
}

// Begin opens the least number that is free, whichever are open, and leaves the others.
func TestBegin(t *testing.T) {
	for bits := range 1 << api.MaxOpen {
		for _, load := range []bool{false, true} {
			open := numbers(bits)
			x := with(t, open, load)
			for n := 1; n <= api.MaxOpen; n++ {
				if slices.Contains(open, n) {
					continue
				}
				if got := x.Begin(); got != n {
					t.Fatalf("%v open: Begin is %d, want %d", open, got, n)
				}
				wantChanges(t, x.Get(n))
				wantNoBack(t, x.Get(n), 1)
				if x.Get(n).Full() || x.Changes() != len(open) {
					t.Fatalf("%v open: %d is full, or has changes", open, n)
				}
			}
			for range 3 {
				if got := x.Begin(); got != 0 {
					t.Fatalf("all open: Begin is %d", got)
				}
				wantOpen(t, x, 1, 2, 3)
			}
			for _, n := range open {
				wantChanges(t, x.Get(n), change(n))
				wantBack(t, x.Get(n), 1, 1)
			}
		}
	}
}

// The number that was ended comes again, and the least of several.
func TestBeginBehindEnd(t *testing.T) {
	for n := 1; n <= api.MaxOpen; n++ {
		x := with(t, []int{1, 2, 3}, false)
		x.End(n)
		if got := x.Begin(); got != n || x.Begin() != 0 {
			t.Fatalf("behind End(%d) Begin is %d", n, got)
		}
		for m := n + 1; m <= api.MaxOpen; m++ {
			x.End(m)
			x.End(n)
			if a, b, c := x.Begin(), x.Begin(), x.Begin(); a != n || b != m || c != 0 {
				t.Fatalf("behind End of %d and %d Begin is %d, %d, %d", n, m, a, b, c)
			}
		}
	}
}

// Get answers the transaction itself: what is pushed to it by one is had by all.
func TestGet(t *testing.T) {
	var x Table
	n := x.Begin()
	a, b := x.Get(n), x.Get(n)
	if a == nil || a != b {
		t.Fatal(a, b)
	}
	a.Push(change(1))
	wantChanges(t, b, change(1))
	wantChanges(t, x.Get(n), change(1))
	if x.Changes() != 1 {
		t.Fatal(x.Changes())
	}
}

func TestWrongNumbers(t *testing.T) {
	for bits := range 1 << api.MaxOpen {
		open := numbers(bits)
		x := with(t, open, false)
		for _, n := range wrong() {
			for _, call := range []func(){func() { x.Load(n, changes(0, 3)) }, func() { x.Load(n, nil) }, func() { x.End(n) }} {
				call()
				if x.Get(n) != nil || x.Changes() != len(open) {
					t.Fatalf("number %d: %v, %d changes", n, x.Get(n), x.Changes())
				}
				wantOpen(t, x, open...)
			}
		}
		for _, n := range open {
			wantChanges(t, x.Get(n), change(n))
			wantBack(t, x.Get(n), 1, 1)
		}
	}
}

func TestLoad(t *testing.T) {
	for n := 1; n <= api.MaxOpen; n++ {
		for _, count := range []int{0, 1, 2, api.MaxOps - 1, api.MaxOps, api.MaxOps + 1, 2 * api.MaxOps, 100} {
			var x Table
			x.Load(n, changes(0, count))
			wantOpen(t, &x, n)
			wantChanges(t, x.Get(n), changes(0, count)...)
			if x.Changes() != count || x.Get(n).Full() != (count >= api.MaxOps) {
				t.Fatalf("%d loaded: Changes is %d, Full %v", count, x.Changes(), x.Get(n).Full())
			}
			wantNoBack(t, x.Get(n), 0, 1)
			wantSave(t, x.Get(n), 1)
			wantBack(t, x.Get(n), 1, count)
		}
	}
	var x Table
	x.Load(2, []Change{})
	wantOpen(t, &x, 2)
	wantChanges(t, x.Get(2))
}

// Load takes the number, as Begin does.
func TestLoadAndBegin(t *testing.T) {
	var x Table
	x.Load(2, changes(0, 2))
	if a, b, c := x.Begin(), x.Begin(), x.Begin(); a != 1 || b != 3 || c != 0 {
		t.Fatal(a, b, c)
	}
	wantChanges(t, x.Get(2), changes(0, 2)...)
	x.End(2)
	if x.Begin() != 2 {
		t.Fatal()
	}
	wantChanges(t, x.Get(2))
}

// Load of one that is open: it has just these changes, and nothing of what it had.
func TestLoadOpen(t *testing.T) {
	for _, load := range []bool{false, true} {
		x := with(t, []int{1, 2, 3}, load)
		for range api.MaxOps {
			x.Get(2).Push(change(9))
		}
		x.Load(2, changes(20, 23))
		wantOpen(t, x, 1, 2, 3)
		wantChanges(t, x.Get(2), changes(20, 23)...)
		if x.Get(2).Full() || x.Changes() != 5 {
			t.Fatal(x.Get(2).Full(), x.Changes())
		}
		wantNoBack(t, x.Get(2), 1, 2)
		for _, n := range []int{1, 3} {
			wantChanges(t, x.Get(n), change(n))
			wantBack(t, x.Get(n), 1, 1)
		}
	}
}

// What is loaded is neither kept nor changed: it is the caller's as before.
func TestLoadCopies(t *testing.T) {
	spare := append(changes(0, 2), changes(50, 60)...)
	l := spare[:2]
	var x Table
	x.Load(1, l)
	x.Load(2, l)
	l[0], l[1] = change(70), change(71)
	wantChanges(t, x.Get(1), changes(0, 2)...)
	x.Get(1).Push(change(80))
	wantPop(t, x.Get(2), change(1))
	x.Get(2).Push(change(81))
	wantChanges(t, x.Get(1), change(0), change(1), change(80))
	wantChanges(t, x.Get(2), change(0), change(81))
	if want := append([]Change{change(70), change(71)}, changes(50, 60)...); !slices.Equal(spare, want) {
		t.Fatalf("the caller's are %v", spare)
	}
	for range 2 {
		x.Get(1).Pop()
	}
	if l[0] != change(70) || l[1] != change(71) {
		t.Fatalf("the caller's are %v", l)
	}
}

func TestEnd(t *testing.T) {
	for bits := range 1 << api.MaxOpen {
		for n := 1; n <= api.MaxOpen; n++ {
			open := numbers(bits)
			x := with(t, open, false)
			left := numbers(bits &^ (1 << (n - 1)))
			for range 2 { // the second time it isn't open any more
				x.End(n)
				wantOpen(t, x, left...)
				if x.Changes() != len(left) {
					t.Fatalf("Changes is %d, open are %v", x.Changes(), left)
				}
				for _, m := range left {
					wantChanges(t, x.Get(m), change(m))
				}
			}
		}
	}
}

// A number that is begun anew has nothing of what it had.
func TestBegunAnew(t *testing.T) {
	var x Table
	n := x.Begin()
	old := x.Get(n)
	for m := range api.MaxOps {
		old.Push(Change{Page: 1, Slot: m % api.Slots, Before: "b"})
	}
	for range api.MaxSaves {
		old.Save()
	}
	x.End(n)
	wantKept(t, &x, 1)
	if x.Changes() != 0 || x.Begin() != n || x.Changes() != 0 {
		t.Fatal(x.Changes())
	}
	y := x.Get(n)
	wantChanges(t, y)
	wantNoBack(t, y, 1, 2, 3, 4)
	if y.Full() {
		t.Fatal()
	}
	wantKept(t, &x, 1)
	y.Push(change(4))
	wantSave(t, y, 1)
	wantBack(t, y, 1, 1)
	// Who still has the one that ended doesn't touch this one by it.
	old.Pop()
	old.Push(change(5))
	old.Save()
	wantChanges(t, y, change(4))
	wantNoBack(t, y, 2)
}

func TestAllInOrder(t *testing.T) {
	orders := [][]int{{1, 2, 3}, {1, 3, 2}, {2, 1, 3}, {2, 3, 1}, {3, 1, 2}, {3, 2, 1}, {3, 1}, {2, 1}, {3, 2}, {3}, {}}
	for _, order := range orders {
		var x Table
		for _, n := range order {
			x.Load(n, changes(n, 2*n))
		}
		want := slices.Sorted(slices.Values(order))
		wantOpen(t, &x, want...)
		for _, n := range want {
			wantChanges(t, x.Get(n), changes(n, 2*n)...)
		}
	}
}

// All stops where yield is false, and doesn't call it again.
func TestAllStopped(t *testing.T) {
	for bits := range 1 << api.MaxOpen {
		open := numbers(bits)
		x := with(t, open, true)
		for stop := range len(open) + 1 {
			var got []int
			x.All(func(n int, y *Txn) bool {
				got = append(got, n)
				return len(got) <= stop
			})
			if want := open[:min(stop+1, len(open))]; !slices.Equal(got, want) {
				t.Fatalf("stopped behind %d of %v: %v", stop, open, got)
			}
		}
		wantOpen(t, x, open...)
	}
}

// What yield is given may be changed, and ended, on the way.
func TestAllChanged(t *testing.T) {
	x := with(t, []int{1, 2, 3}, false)
	for n, y := range x.All {
		y.Push(change(n + 10))
	}
	for n := 1; n <= api.MaxOpen; n++ {
		wantChanges(t, x.Get(n), change(n), change(n+10))
	}
	for n, y := range x.All {
		for range 2 {
			y.Pop()
		}
		wantChanges(t, y)
		x.End(n)
	}
	wantOpen(t, x)

	x = with(t, []int{1, 2, 3}, false)
	var got []int
	for n := range x.All {
		got = append(got, n)
		x.End(2)
	}
	if !slices.Equal(got, []int{1, 3}) {
		t.Fatalf("2 ended on the way: %v", got)
	}
	for range x.All {
		x.Begin() // of whatever is free: the walk ends all the same
	}
	x.All(nil)
	wantOpen(t, x, 1, 2, 3)
}

func TestKept(t *testing.T) {
	var x Table
	a, b := x.Begin(), x.Begin()
	x.Get(a).Push(Change{Page: 1, Slot: 2, Before: "q"})
	x.Get(a).Push(Change{Page: 1, Slot: 3}) // it was free: it needn't be filled again
	x.Get(a).Push(Change{Page: 2, Slot: 4, Before: "r"})
	x.Get(b).Push(Change{Page: 1, Slot: 0, Before: "s"})
	x.Get(b).Push(Change{Page: 0, Slot: 1, Before: "\x00"})
	wantKept(t, &x, 0, 1)
	wantKept(t, &x, 1, 0, 2)
	wantKept(t, &x, 2, 4)
	for _, page := range []int{math.MinInt, -1, 3, 4, 5, 6, 257, 1<<32 + 1, math.MaxInt} {
		wantKept(t, &x, page)
	}
	// One slot changed several times is kept as long as one of these changes has a Before.
	x.Get(a).Push(Change{Page: 1, Slot: 3, Before: "t"})
	x.Get(a).Push(Change{Page: 1, Slot: 3})
	x.Get(a).Push(Change{Page: 1, Slot: 2, Before: "u"})
	wantKept(t, &x, 1, 0, 2, 3)
	x.Get(a).Pop()
	wantKept(t, &x, 1, 0, 2, 3)
	x.Get(a).Pop()
	wantKept(t, &x, 1, 0, 2, 3)
	x.Get(a).Pop()
	wantKept(t, &x, 1, 0, 2)
	x.Get(b).Pop()
	wantKept(t, &x, 0)
	x.End(b)
	wantKept(t, &x, 1, 2)
	x.Load(3, []Change{{Page: 1, Slot: 1, Before: "v"}, {Page: 1, Slot: 4}, {Page: 3, Slot: 0, Before: "w"}})
	wantKept(t, &x, 1, 1, 2)
	wantKept(t, &x, 3, 0)
	x.End(a)
	wantKept(t, &x, 1, 1)
	wantKept(t, &x, 2)
}

// Kept tells pages and slots by their numbers, whatever these are, and its list is the caller's.
func TestKeptAnyNumbers(t *testing.T) {
	l := []Change{{math.MinInt, math.MaxInt, "a"}, {math.MaxInt, math.MinInt, "b"}, {-1, -1, "c"}, {6, 5, "d"}}
	x := new(Table)
	x.Load(1, l)
	for _, c := range l {
		wantKept(t, x, c.Page, c.Slot)
		for n := range x.Kept(c.Page) {
			x.Kept(c.Page)[n] = 77
		}
		wantKept(t, x, c.Page, c.Slot)
	}
	wantKept(t, x, 0)
	wantChanges(t, x.Get(1), l...)
}

// Full counts what was added, by Load and by Push, whatever was removed in between.
func TestFull(t *testing.T) {
	for load := range api.MaxOps + 3 {
		for pops := range load + 1 {
			var x Table
			x.Load(1, changes(0, load))
			y := x.Get(1)
			for range pops {
				y.Pop()
			}
			for added := load; added < api.MaxOps+3; added++ {
				if y.Full() != (added >= api.MaxOps) {
					t.Fatalf("%d loaded, %d removed, %d added in all: Full is %v", load, pops, added, y.Full())
				}
				y.Push(change(added))
			}
			if !y.Full() {
				t.Fatal(load, pops)
			}
		}
	}
}

func TestFullByPush(t *testing.T) {
	for _, pop := range []bool{false, true} {
		y := begun(t)
		for n := range 3 * api.MaxOps {
			if y.Full() != (n >= api.MaxOps) {
				t.Fatalf("%d pushed, each removed %v: Full is %v", n, pop, y.Full())
			}
			y.Push(change(n))
			if pop {
				wantPop(t, y, change(n))
			}
		}
	}
}

// Neither Save nor Back nor a Pop of none counts as a change.
func TestNotFull(t *testing.T) {
	y := begun(t, changes(0, api.MaxOps-1)...)
	for range 10 {
		y.Save()
		y.Back(1)
	}
	for range 20 {
		y.Pop()
	}
	if y.Full() {
		t.Fatal()
	}
	y.Push(change(1))
	if !y.Full() {
		t.Fatal()
	}
	y.Pop()
	y.Back(1)
	if !y.Full() {
		t.Fatal()
	}
}

// Push appends also where it is full.
func TestPushFull(t *testing.T) {
	for _, y := range []*Txn{begun(t, changes(0, api.MaxOps)...), loaded(changes(0, api.MaxOps)...)} {
		for n := api.MaxOps; n < 100; n++ {
			y.Push(change(n))
			wantChanges(t, y, changes(0, n+1)...)
		}
		for n := 99; n >= 0; n-- {
			wantPop(t, y, change(n))
			wantChanges(t, y, changes(0, n)...)
		}
	}
}

func TestPop(t *testing.T) {
	for _, y := range []*Txn{begun(t, changes(0, 3)...), loaded(changes(0, 3)...)} {
		wantPop(t, y, change(2))
		wantChanges(t, y, changes(0, 2)...)
		y.Push(change(7))
		wantPop(t, y, change(7))
		wantPop(t, y, change(1))
		wantPop(t, y, change(0))
		for range 3 {
			if c, ok := y.Pop(); ok || c != (Change{}) {
				t.Fatal(c, ok)
			}
			wantChanges(t, y)
		}
		y.Push(change(8))
		wantChanges(t, y, change(8))
		wantPop(t, y, change(8))
	}
	for _, y := range []*Txn{begun(t), loaded()} {
		if c, ok := y.Pop(); ok || c != (Change{}) {
			t.Fatal(c, ok)
		}
	}
}

// A change comes back as it was, also one with nothing in it.
func TestAnyChange(t *testing.T) {
	l := []Change{{}, {-1, -2, "x"}, {math.MaxInt, math.MinInt, strings.Repeat("\xff\x00", 3000)}, {}, {5, 4, ""}, {0, 0, "\x00"}}
	for _, y := range []*Txn{begun(t, l...), loaded(l...)} {
		wantChanges(t, y, l...)
		for n := len(l) - 1; n >= 0; n-- {
			wantPop(t, y, l[n])
		}
	}
}

// List is the caller's: what becomes of it doesn't touch the transaction, nor another list.
func TestListCopies(t *testing.T) {
	for _, y := range []*Txn{begun(t, changes(0, 3)...), loaded(changes(0, 3)...)} {
		l, other := y.List(), y.List()
		for n := range l {
			l[n] = change(40 + n)
		}
		_ = append(l[:1], change(50), change(51), change(52))
		wantChanges(t, y, changes(0, 3)...)
		y.Push(change(3))
		y.Pop()
		y.Pop()
		y.Push(change(60))
		if !slices.Equal(other, changes(0, 3)) {
			t.Fatalf("the list is %v", other)
		}
		_ = append(other, change(61))
		y.Push(change(62))
		wantChanges(t, y, change(0), change(1), change(60), change(62))
	}
}

func TestSave(t *testing.T) {
	// With changes in between, and without.
	for _, between := range []int{0, 1, 2, 5} {
		y := begun(t)
		next := 0
		for n := 1; n <= api.MaxSaves; n++ {
			wantSave(t, y, n)
			for range between {
				y.Push(change(next))
				next++
			}
		}
		for range 3 {
			wantSave(t, y, 0)
		}
		wantChanges(t, y, changes(0, next)...)
		for n := api.MaxSaves; n >= 1; n-- {
			wantBack(t, y, n, between*(n-1))
		}
		wantChanges(t, y, changes(0, next)...)
	}
}

// A Save that is refused leaves the savepoints that there are.
func TestSaveRefused(t *testing.T) {
	y := begun(t)
	for n := 1; n <= api.MaxSaves; n++ {
		y.Push(change(n))
		wantSave(t, y, n)
	}
	y.Push(change(0))
	wantSave(t, y, 0)
	wantNoBack(t, y, api.MaxSaves+1, 0)
	wantBack(t, y, api.MaxSaves, api.MaxSaves)
	wantSave(t, y, 0)
	wantBack(t, y, 1, 1)
}

func TestBack(t *testing.T) {
	for back := 1; back <= api.MaxSaves; back++ {
		y := begun(t)
		for n := 1; n <= api.MaxSaves; n++ {
			y.Push(change(2 * n))
			y.Push(change(2*n + 1))
			wantSave(t, y, n)
		}
		list := y.List()
		for range 2 { // it is there still the second time
			wantBack(t, y, back, 2*back)
			wantChanges(t, y, list...)
		}
		for n := back + 1; n <= api.MaxSaves+1; n++ {
			wantNoBack(t, y, n)
		}
		// Those that are made next have the numbers behind it, and as many changes as there are now.
		y.Push(change(1))
		for n := back + 1; n <= api.MaxSaves; n++ {
			wantSave(t, y, n)
			wantBack(t, y, n, 2*api.MaxSaves+1)
		}
		wantSave(t, y, 0)
		for n := back; n >= 1; n-- {
			wantBack(t, y, n, 2*n)
		}
	}
}

// Back to none leaves the savepoints, and all else.
func TestBackToNone(t *testing.T) {
	none := []int{math.MinInt, -4, -1, 0, 5, 6, 257, 1 << 32, 1<<32 + 1, math.MaxInt}
	wantNoBack(t, begun(t, changes(0, 3)...), append(none, 1, 2, 3, 4)...)
	for have := 1; have <= api.MaxSaves; have++ {
		y := begun(t)
		for n := 1; n <= have; n++ {
			y.Push(change(n))
			wantSave(t, y, n)
		}
		wantNoBack(t, y, none...)
		for n := have + 1; n <= api.MaxSaves; n++ {
			wantNoBack(t, y, n)
		}
		wantChanges(t, y, changes(1, have+1)...)
		for n := have; n >= 1; n-- {
			wantBack(t, y, n, n)
		}
	}
}

// A savepoint has as many changes as there were, whatever was removed and added since.
func TestBackBehindPop(t *testing.T) {
	y := begun(t, changes(0, 3)...)
	wantSave(t, y, 1)
	y.Pop()
	wantSave(t, y, 2)
	y.Pop()
	y.Pop()
	wantSave(t, y, 3)
	y.Push(change(9))
	wantBack(t, y, 3, 0)
	wantBack(t, y, 2, 2)
	wantBack(t, y, 1, 3)
	wantChanges(t, y, change(9))
}

// Transactions that are open at once have their own changes and savepoints.
func TestApart(t *testing.T) {
	var x Table
	for n := 1; n <= api.MaxOpen; n++ {
		if x.Begin() != n {
			t.Fatal(n)
		}
	}
	want := map[int][]Change{}
	for round := range 4 {
		for n, y := range x.All {
			for range n {
				c := change(10*n + round)
				y.Push(c)
				want[n] = append(want[n], c)
			}
			wantSave(t, y, round+1)
		}
	}
	if x.Changes() != 4*(1+2+3) {
		t.Fatal(x.Changes())
	}
	wantBack(t, x.Get(2), 1, 2)
	wantNoBack(t, x.Get(2), 2)
	wantPop(t, x.Get(1), want[1][3])
	wantChanges(t, x.Get(1), want[1][:3]...)
	wantChanges(t, x.Get(2), want[2]...)
	wantChanges(t, x.Get(3), want[3]...)
	for n := 1; n <= api.MaxOpen; n++ {
		if x.Get(n).Full() != (4*n >= api.MaxOps) {
			t.Fatal(n)
		}
	}
	for _, n := range []int{1, 3} {
		for save := 4; save >= 1; save-- {
			wantBack(t, x.Get(n), save, n*save)
		}
	}
	x.End(2)
	wantChanges(t, x.Get(1), want[1][:3]...)
	wantChanges(t, x.Get(3), want[3]...)
	if x.Changes() != 3+12 {
		t.Fatal(x.Changes())
	}
}

// Two tables have nothing in common.
func TestTwoTables(t *testing.T) {
	var a, b Table
	a.Begin()
	a.Get(1).Push(Change{Page: 0, Slot: 1, Before: "a"})
	wantOpen(t, &b)
	b.Begin()
	wantChanges(t, b.Get(1))
	b.End(1)
	wantOpen(t, &a, 1)
	wantKept(t, &a, 0, 1)
	wantKept(t, &b, 0)
}

func TestNilTxn(t *testing.T) {
	var table Table
	for _, y := range []*Txn{nil, table.Get(1)} {
		for range 2 * api.MaxOps {
			if !y.Full() || y.Len() != 0 || len(y.List()) != 0 {
				t.Fatal(y.Full(), y.Len(), y.List())
			}
			y.Push(change(1))
			if c, ok := y.Pop(); ok || c != (Change{}) {
				t.Fatal(c, ok)
			}
			wantSave(t, y, 0)
			wantNoBack(t, y, math.MinInt, -1, 0, 1, 2, 4, 5, math.MaxInt)
		}
	}
	wantOpen(t, &table)
}
