package trans

import (
	"math/rand"
	"slices"
	"strconv"
	"strings"
	"testing"

	"tenement/api"
)

// A call of a Table, or of one of its transactions, as data.
type call struct {
	name string
	n    int // the transaction
	arg  int // of push: which change; of load: how many; of back: the savepoint
}

func (c call) String() string {
	return c.name + "(" + strconv.Itoa(c.n) + ", " + strconv.Itoa(c.arg) + ")"
}

// A model is all that was said of each number that is open since it was opened, from which everything is told anew each time.
type model map[int][]call

// next: what the call answers, as two numbers; and it is said.
func (m model) next(c call) (int, int) {
	switch c.name {
	case "begin":
		for n := 1; n <= api.MaxOpen; n++ {
			if _, open := m[n]; !open {
				m[n] = []call{}
				return n, 0
			}
		}
		return 0, 0
	case "load":
		m[c.n] = []call{}
		for n := range c.arg {
			m[c.n] = append(m[c.n], call{"push", c.n, n})
		}
		return 0, 0
	case "end":
		delete(m, c.n)
		return 0, 0
	}
	said, open := m[c.n]
	if !open {
		return 0, 0
	}
	a, b := answer(said, c)
	m[c.n] = append(said, c)
	return a, b
}

// answer: what a call of a transaction answers behind those that were said before.
func answer(said []call, c call) (int, int) {
	switch has := had(said); c.name {
	case "pop":
		if len(has) > 0 {
			return has[len(has)-1], 1
		}
	case "save":
		if points := saved(said); len(points) < api.MaxSaves {
			return len(points) + 1, 1
		}
	case "back":
		if points := saved(said); c.arg >= 1 && c.arg <= len(points) {
			return points[c.arg-1], 1
		}
	}
	return 0, 0
}

// had: the changes that it has behind these calls.
func had(said []call) []int {
	var has []int
	for _, c := range said {
		switch {
		case c.name == "push":
			has = append(has, c.arg)
		case c.name == "pop" && len(has) > 0:
			has = slices.Clone(has[:len(has)-1])
		}
	}
	return has
}

// saved: how many changes its savepoints have behind these calls.
func saved(said []call) []int {
	var points []int
	for n, c := range said {
		switch {
		case c.name == "save" && len(points) < api.MaxSaves:
			points = append(points, len(had(said[:n])))
		case c.name == "back" && c.arg >= 1 && c.arg < len(points):
			points = points[:c.arg]
		}
	}
	return points
}

// pushed: how many changes were added by these calls.
func pushed(said []call) int {
	n := 0
	for _, c := range said {
		if c.name == "push" {
			n++
		}
	}
	return n
}

func listOf(has []int) []Change {
	var l []Change
	for _, n := range has {
		l = append(l, change(n))
	}
	return l
}

// do makes the call: what it answers, as the model tells it.
func (c call) do(t *testing.T, x *Table) (int, int) {
	t.Helper()
	flag := map[bool]int{false: 0, true: 1}
	switch c.name {
	case "begin":
		return x.Begin(), 0
	case "load":
		x.Load(c.n, changes(0, c.arg))
	case "end":
		x.End(c.n)
	case "push":
		x.Get(c.n).Push(change(c.arg))
	case "pop":
		got, ok := x.Get(c.n).Pop()
		for n := range 30 {
			if ok && got == change(n) {
				return n, 1
			}
		}
		if got != (Change{}) {
			t.Fatalf("%s answers %v, which never was", c, got)
		}
		return 0, flag[ok]
	case "save":
		got := x.Get(c.n).Save()
		return got, flag[got != 0]
	case "back":
		got, ok := x.Get(c.n).Back(c.arg)
		return got, flag[ok]
	}
	return 0, 0
}

// holds holds all that a table tells against the model.
func (m model) holds(t *testing.T, x *Table) {
	t.Helper()
	var open []int
	total := 0
	kept := map[int][]int{}
	for n := 1; n <= api.MaxOpen; n++ {
		said, isOpen := m[n]
		if !isOpen {
			continue
		}
		open = append(open, n)
		list := listOf(had(said))
		total += len(list)
		for _, c := range list {
			if c.Before != "" {
				kept[c.Page] = append(kept[c.Page], c.Slot)
			}
		}
		wantChanges(t, x.Get(n), list...)
		if full := pushed(said) >= api.MaxOps; x.Get(n).Full() != full {
			t.Fatalf("Full of %d is %v", n, !full)
		}
	}
	wantOpen(t, x, open...)
	if x.Changes() != total {
		t.Fatalf("Changes is %d, want %d", x.Changes(), total)
	}
	for page := -1; page <= api.Pages; page++ {
		wantKept(t, x, page, set(kept[page])...)
	}
}

// run makes the calls, and holds what each answers, and what the table tells behind it, against the model.
func run(t *testing.T, calls []call) {
	t.Helper()
	defer func() {
		if t.Failed() {
			var all []string
			for _, c := range calls {
				all = append(all, c.String())
			}
			t.Log(strings.Join(all, " "))
		}
	}()
	var x Table
	m := model{}
	for at, c := range calls {
		a, b := m.next(c)
		if gotA, gotB := c.do(t, &x); gotA != a || gotB != b {
			t.Fatalf("call %d, %s, answers %d, %d; want %d, %d", at, c, gotA, gotB, a, b)
		}
		m.holds(t, &x)
	}
}

// All rows of five calls of one transaction, among those that matter to its changes and savepoints.
func TestShortStories(t *testing.T) {
	const length = 5
	kinds := []call{{"push", 1, 1}, {"push", 1, 3}, {"pop", 1, 0}, {"save", 1, 0}, {"back", 1, 1}, {"back", 1, 2}, {"end", 1, 0}, {"begin", 0, 0}}
	stories := 1
	for range length {
		stories *= len(kinds)
	}
	for story := range stories {
		calls := []call{{"begin", 0, 0}}
		for rest, n := story, 0; n < length; n++ {
			calls = append(calls, kinds[rest%len(kinds)])
			rest /= len(kinds)
		}
		run(t, calls)
	}
}

// Long rows of any calls of all transactions; the seeds are fixed, so that each run is the same.
func TestLongStories(t *testing.T) {
	names := strings.Fields("begin begin load end push push push push push pop pop save save back back")
	for seed := range int64(300) {
		r := rand.New(rand.NewSource(seed))
		var calls []call
		for range 60 {
			c := call{name: names[r.Intn(len(names))], n: 1 + r.Intn(api.MaxOpen)}
			switch c.name {
			case "push":
				c.arg = r.Intn(30)
			case "load":
				c.arg = r.Intn(api.MaxOps + 3)
			case "back":
				c.arg = r.Intn(api.MaxSaves+3) - 1
			case "end":
				if r.Intn(3) > 0 {
					c = call{"begin", 0, 0}
				}
			}
			calls = append(calls, c)
		}
		run(t, calls)
	}
}
