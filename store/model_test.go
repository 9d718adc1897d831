package store

import (
	"cmp"
	"math/rand"
	"slices"
	"strconv"
	"testing"

	"tenement/api"
	"tenement/disk"
	"tenement/lock"
	"tenement/page"
)

const (
	places = api.Pages * api.Slots
	first  = 514 // the sector at which the pages begin
)

// An op is a call, as data.
type op struct {
	name string
	txn  int
	row  api.Row // of read, del and scan: its table and its key alone
	to   string  // of scan
	n    int     // of back: the savepoint; of write: the page; of crash: what it keeps
}

func (o op) String() string {
	return o.name + " " + strconv.Itoa(o.txn) + " " + show(o.row) + " " + strconv.Quote(o.to) + " " + strconv.Itoa(o.n)
}

func show(r api.Row) string {
	return strconv.Itoa(r.Table) + "/" + strconv.Quote(r.Key) + "=" + strconv.Quote(r.Value)
}

// An answer is what any call may answer.
type answer struct {
	err   api.Errno
	value string
	rows  []api.Row
	n     int
}

func (a answer) String() string {
	s := "error " + strconv.Itoa(int(a.err)) + " " + strconv.Quote(a.value) + " " + strconv.Itoa(a.n)
	for _, r := range a.rows {
		s += " " + show(r)
	}
	return s
}

func same(a, b answer) bool {
	return a.err == b.err && a.value == b.value && slices.Equal(a.rows, b.rows) && a.n == b.n
}

// A model is what a store has to answer: all slots one behind the other, without pages, a lane or a disk.
type model struct {
	slots [places]*api.Row
	txns  [api.MaxOpen + 1]*txn
	locks *lock.Locks
}

type txn struct {
	made  []made
	added int
	saves []int
}

// made is what a slot was ahead of a change.
type made struct {
	slot   int
	before *api.Row
}

func newModel() *model { return &model{locks: lock.New()} }

// behind: the model behind a crash.
func (m *model) behind() *model {
	after := newModel()
	after.slots = m.slots
	for _, x := range m.txns {
		if x == nil {
			continue
		}
		// No two open transactions have changed the same slot.
		for _, c := range slices.Backward(x.made) {
			after.slots[c.slot] = c.before
		}
	}
	return after
}

// committed: the model behind a crash that comes behind a transaction's commit.
func (m *model) committed(n int) *model {
	other := &model{slots: m.slots, txns: m.txns}
	other.txns[n] = nil
	return other.behind()
}

func (m *model) open(n int) bool { return n >= 1 && n <= api.MaxOpen && m.txns[n] != nil }

func (m *model) find(table int, key string) int {
	return slices.IndexFunc(m.slots[:], func(r *api.Row) bool { return r != nil && r.Table == table && r.Key == key })
}

// free: the first slot that isn't taken.
func (m *model) free() int {
	taken := map[int]bool{}
	for _, x := range m.txns {
		if x == nil {
			continue
		}
		for _, c := range x.made {
			taken[c.slot] = taken[c.slot] || c.before != nil
		}
	}
	for i, r := range m.slots {
		if r == nil && !taken[i] {
			return i
		}
	}
	return -1
}

func (m *model) rows() []api.Row {
	var all []api.Row
	for _, r := range m.slots {
		if r != nil {
			all = append(all, *r)
		}
	}
	slices.SortFunc(all, func(a, b api.Row) int {
		return cmp.Or(cmp.Compare(a.Table, b.Table), cmp.Compare(a.Key, b.Key))
	})
	return all
}

func (m *model) undo(x *txn, stay int) {
	for len(x.made) > stay {
		last := x.made[len(x.made)-1]
		m.slots[last.slot] = last.before
		x.made = x.made[:len(x.made)-1]
	}
}

func (m *model) change(x *txn, slot int, r *api.Row) {
	x.made = append(slices.Clone(x.made), made{slot, m.slots[slot]})
	x.added++
	m.slots[slot] = r
}

func (m *model) do(o op) answer {
	switch o.name {
	case "begin":
		return m.begin()
	case "crash":
		*m = *m.behind()
	case "read", "put", "del", "scan":
		return m.ask(o)
	case "save", "back", "commit", "abort":
		return m.steer(o)
	}
	return answer{}
}

func (m *model) begin() answer {
	for n := 1; n <= api.MaxOpen; n++ {
		if m.txns[n] == nil {
			m.txns[n] = &txn{}
			return answer{n: n}
		}
	}
	return answer{}
}

// ask: what a call with a table answers.
func (m *model) ask(o op) answer {
	x, table, key := m.txns[o.txn], o.row.Table, o.row.Key
	if o.name == "scan" {
		if !m.locks.Table(o.txn, table) {
			return answer{err: api.ErrLocked}
		}
		return answer{rows: slices.DeleteFunc(m.rows(), func(r api.Row) bool { return r.Table != table || r.Key < key || r.Key > o.to })}
	}
	if !m.locks.Key(o.txn, table, key, o.name != "read") {
		return answer{err: api.ErrLocked}
	}
	at := m.find(table, key)
	switch {
	case o.name == "put" && x.added == api.MaxOps:
		return answer{err: api.ErrFull}
	case o.name == "put" && at < 0:
		if at = m.free(); at < 0 {
			return answer{err: api.ErrQuota}
		}
	case at < 0:
		return answer{err: api.ErrNone}
	case o.name == "read":
		return answer{value: m.slots[at].Value}
	case o.name == "del" && x.added == api.MaxOps:
		return answer{err: api.ErrFull}
	}
	if o.name == "del" {
		m.change(x, at, nil)
	} else {
		r := o.row
		m.change(x, at, &r)
	}
	return answer{}
}

// steer: what a call of a transaction alone answers.
func (m *model) steer(o op) answer {
	x := m.txns[o.txn]
	switch o.name {
	case "save":
		if len(x.saves) == api.MaxSaves {
			return answer{}
		}
		x.saves = append(x.saves, len(x.made))
		return answer{n: len(x.saves)}
	case "back":
		if o.n < 1 || o.n > len(x.saves) {
			return answer{err: api.ErrNone}
		}
		x.saves = x.saves[:o.n]
		m.undo(x, x.saves[o.n-1])
		return answer{}
	case "abort":
		m.undo(x, 0)
	}
	m.txns[o.txn] = nil
	m.locks.Drop(o.txn)
	return answer{}
}

// call: what the store answers.
func (w *world) call(o op) answer {
	switch o.name {
	case "begin":
		return answer{n: w.s.Begin()}
	case "read":
		v, e := w.s.Read(o.txn, o.row.Table, o.row.Key)
		return answer{err: e, value: v}
	case "put":
		return answer{err: w.s.Put(o.txn, o.row)}
	case "del":
		return answer{err: w.s.Del(o.txn, o.row.Table, o.row.Key)}
	case "scan":
		l, e := w.s.Scan(o.txn, o.row.Table, o.row.Key, o.to)
		return answer{err: e, rows: l}
	case "save":
		return answer{n: w.s.Get(o.txn).Save()}
	case "back":
		return answer{err: w.s.Back(o.txn, o.n)}
	case "commit":
		return answer{err: w.s.Commit(o.txn)}
	case "abort":
		return answer{err: w.s.Abort(o.txn)}
	case "point":
		return answer{err: w.s.Point()}
	case "pack":
		return answer{err: w.s.Pack()}
	case "write":
		return answer{err: w.s.Write(o.n)}
	case "crash":
		w.d.Crash(uint64(o.n))
		s, e := Open(w.d, 0)
		w.s = s
		return answer{err: e}
	}
	panic("no call " + o.name)
}

// A world is a store on its disk, and the model of it.
type world struct {
	t *testing.T
	d *disk.Disk
	s *Store
	m *model
}

func newWorld(t *testing.T) *world {
	d, s := newStore(t)
	return &world{t, d, s, newModel()}
}

// do does a call, and holds all that is to be seen of the store against the model; ErrDown alone is left to the caller.
func (w *world) do(o op) api.Errno {
	got := w.call(o)
	if got.err == api.ErrDown {
		if !same(got, answer{err: api.ErrDown}) {
			w.t.Fatalf("%v: %v", o, got)
		}
		return api.ErrDown
	}
	if want := w.m.do(o); !same(got, want) {
		w.t.Fatalf("%v: %v; want %v", o, got, want)
	}
	w.wantSame(o.String())
	if o.name == "pack" || o.name == "crash" {
		w.wantPages(o.String())
	}
	return got.err
}

// wantSame: the rows are those of the model, each in its slot.
func (w *world) wantSame(behind string) {
	w.t.Helper()
	if got, want := w.s.Rows(), w.m.rows(); !slices.Equal(got, want) {
		w.t.Fatalf("%s: rows %v; want %v", behind, got, want)
	}
	for i := range w.s.index.All {
		if r := w.m.slots[i.Page*api.Slots+i.Slot]; r == nil || *r != i.Row {
			w.t.Fatalf("%s: row %v is in slot %d of page %d", behind, i.Row, i.Slot, i.Page)
		}
	}
	for n := 1; n <= api.MaxOpen; n++ {
		if x := w.s.Get(n); (x != nil) != w.m.open(n) || x != nil && x.Len() != len(w.m.txns[n].made) {
			w.t.Fatalf("%s: transaction %d has %d changes", behind, n, x.Len())
		}
	}
	if w.s.Len() != w.m.locks.Len() {
		w.t.Fatalf("%s: %d things are held; want %d", behind, w.s.Len(), w.m.locks.Len())
	}
}

// wantPages: the disk has the model's rows, each in its slot.
func (w *world) wantPages(behind string) {
	w.t.Helper()
	for n := range api.Pages {
		p := pageOf(w.t, w.d, n)
		for i := range api.Slots {
			want := ""
			if r := w.m.slots[n*api.Slots+i]; r != nil {
				want = slot(*r)
			}
			if p.Slot(i) != want {
				w.t.Fatalf("%s: slot %d of page %d is %q on the disk; want %q", behind, i, n, p.Slot(i), want)
			}
		}
	}
}

// pageOf: a page as the disk has it.
func pageOf(t *testing.T, d *disk.Disk, n int) page.Page {
	t.Helper()
	p, e := page.Decode(sectors(t, d, first+4*n, 4), 0, n)
	if e != api.OK {
		t.Fatalf("page %d: %v", n, e)
	}
	return p
}

func sectors(t *testing.T, d *disk.Disk, from, n int) []byte {
	t.Helper()
	var all []byte
	for i := range n {
		b, e := d.Read(0, from+i)
		if e != api.OK {
			t.Fatal(e)
		}
		all = append(all, b...)
	}
	return all
}

func put(txn int, key, value string) op {
	return op{name: "put", txn: txn, row: api.Row{Key: key, Value: value}}
}
func del(txn int, key string) op  { return op{name: "del", txn: txn, row: api.Row{Key: key}} }
func read(txn int, key string) op { return op{name: "read", txn: txn, row: api.Row{Key: key}} }
func scan(txn int, from, to string) op {
	return op{name: "scan", txn: txn, row: api.Row{Key: from}, to: to}
}
func begin() op          { return op{name: "begin"} }
func save(txn int) op    { return op{name: "save", txn: txn} }
func back(txn, n int) op { return op{name: "back", txn: txn, n: n} }
func commit(txn int) op  { return op{name: "commit", txn: txn} }
func abort(txn int) op   { return op{name: "abort", txn: txn} }
func point() op          { return op{name: "point"} }
func pack() op           { return op{name: "pack"} }
func write(n int) op     { return op{name: "write", n: n} }
func crash(mask int) op  { return op{name: "crash", n: mask} }

// run does calls none of which the disk may refuse.
func (w *world) run(l ...op) {
	w.t.Helper()
	for _, o := range l {
		// A crash along the way leaves fewer transactions open.
		if o.txn > 0 && !w.m.open(o.txn) {
			continue
		}
		if e := w.do(o); e == api.ErrDown {
			w.t.Fatalf("%v: down", o)
		}
	}
}

// All short rows of calls, behind two transactions that were begun.
func TestAllShortRows(t *testing.T) {
	all := []op{
		begin(), put(1, "a", "x"), put(1, "a", "y"), put(1, "b", "z"), put(2, "a", "x"), put(2, "b", "y"),
		del(1, "a"), del(2, "a"), read(1, "a"), read(2, "a"), scan(1, "a", "b"), scan(2, "", "a"),
		save(1), back(1, 1), back(1, 2), commit(1), commit(2), abort(1), abort(2), write(0), point(), pack(), crash(0), crash(-1),
	}
	starts := [][]op{
		{begin(), begin()},
		{begin(), put(1, "a", "0"), commit(1), begin(), begin(), save(1)},
		{begin(), put(1, "a", "0"), put(1, "b", "0"), commit(1), begin(), begin(), del(1, "a"), save(1), put(1, "c", "1")},
	}
	for _, start := range starts {
		for i := range len(all) * len(all) * len(all) {
			w := newWorld(t)
			w.run(start...)
			w.run(all[i%len(all)], all[i/len(all)%len(all)], all[i/len(all)/len(all)])
		}
	}
}

// any: one of all calls, with an open transaction, if it needs one.
func (m *model) any(r *rand.Rand) op {
	o := op{name: "begin"}
	if open := slices.DeleteFunc([]int{1, 2, 3}, func(n int) bool { return !m.open(n) }); len(open) > 0 {
		o.txn = open[r.Intn(len(open))]
		o.name = []string{"begin", "read", "read", "del", "del", "scan", "save", "back", "commit", "commit", "abort"}[r.Intn(11)]
		if r.Intn(2) == 0 {
			o.name = "put"
		}
	}
	if r.Intn(15) == 0 {
		o = op{name: []string{"point", "pack", "write", "write", "write", "write", "crash"}[r.Intn(7)]}
	}
	o.row.Table = r.Intn(4)
	o.row.Key = string(rune('a' + r.Intn(10)))
	o.to = string(rune('a' + r.Intn(10)))
	if o.name == "put" {
		o.row.Value = strconv.Itoa(r.Intn(1000))
	}
	switch o.name {
	case "crash":
		o.n = r.Int()
	case "write":
		o.n = r.Intn(30) - 12
	default:
		o.n = r.Intn(6)
	}
	return o
}

// Long rows of calls, that were once drawn by lot; each answer that there may be comes about in them.
func TestLongRows(t *testing.T) {
	came := map[string]int{}
	for seed := range int64(12) {
		r := rand.New(rand.NewSource(seed))
		w := newWorld(t)
		for range 1500 {
			o := w.m.any(r)
			e := w.do(o)
			if e == api.ErrDown {
				t.Fatal(o)
			}
			came[o.name+" "+strconv.Itoa(int(e))]++
		}
	}
	for _, s := range []string{"read 0", "read 5", "read 6", "put 0", "put 6", "put 7", "put 8", "del 0", "del 5", "del 6", "del 8", "scan 0", "scan 6", "back 0", "back 5"} {
		if came[s] < 10 {
			t.Errorf("%s came about %d times", s, came[s])
		}
	}
}
