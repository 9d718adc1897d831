package pool

import (
	"bytes"
	"encoding/binary"
	"math/rand"
	"slices"
	"strconv"
	"testing"

	"tenement/api"
	"tenement/lane"
	"tenement/page"
)

// A world is a pool, and what may be found of its pages behind a crash.
type world struct {
	*rig
	made map[uint64]page.Page // how the page was when it got this mark
	safe [pages]uint64        // the mark of each page that was written with OK, or found
	last [pages]uint64        // the mark that it got last
	rows int
}

func newWorld(t *testing.T) *world {
	return &world{rig: newRig(t), made: map[uint64]page.Page{}}
}

// change changes a page by a record.
func (w *world) change(n int) {
	w.t.Helper()
	x := w.get(n)
	w.rows++
	x.Set(w.rows%5, slot(strconv.Itoa(w.rows)))
	w.last[n] = w.touch(n)
	w.made[w.last[n]] = *x
}

// try does one of the calls that write. What isn't dirty any more must last.
func (w *world) try(call func(*Pool) api.Errno) api.Errno {
	e := call(w.p)
	for n := range pages {
		if w.p.Clean(n) {
			w.safe[n] = w.last[n]
		}
	}
	return e
}

// found looks at what the disk has behind a crash, and at what records the lane has then.
func (w *world) found() {
	w.t.Helper()
	l, all, e := lane.Open(w.d, 0)
	if e != api.OK {
		w.t.Fatal(e)
	}
	durable := map[uint64]int{}
	for _, x := range all {
		durable[x.Place] = x.Page
	}
	for n := range pages {
		b := w.raw(n)
		for i := range perPage {
			sector := b[i*64:][:64]
			mark := binary.BigEndian.Uint64(sector)
			if mark != w.safe[n] && mark != w.last[n] {
				w.t.Fatalf("page %d has mark %d; want %d or %d", n, mark, w.safe[n], w.last[n])
			}
			if of, ok := durable[mark]; mark > 0 && (!ok || of != n) {
				w.t.Fatalf("page %d has mark %d, and the lane has no such record", n, mark)
			}
			if !bytes.Equal(sector, page.Encode(w.made[mark])[i*64:][:64]) {
				w.t.Fatalf("sector %d of page %d is %v", i, n, sector)
			}
		}
	}
	w.l = l
	w.p = New(w.d, 0, l)
}

// goOn goes on with the pool that was opened: each page is whole, or torn as it may be.
func (w *world) goOn() {
	w.t.Helper()
	for n := range pages {
		x, e := w.p.Get(n)
		if e == api.ErrTorn && w.safe[n] != w.last[n] {
			again := page.Page{Number: n}
			if w.safe[n] > 0 {
				again = w.made[w.safe[n]]
			}
			w.put(again)
			w.change(n)
			continue
		}
		if e != api.OK {
			w.t.Fatal(e)
		}
		if want, ok := w.made[x.Mark]; x.Mark > 0 && (!ok || *x != want) {
			w.t.Fatalf("page %d is %v, want %v", n, x, want)
		}
		w.change(n)
	}
	if e := w.try(func(p *Pool) api.Errno { return p.FlushAll() }); e != api.OK {
		w.t.Fatal(e)
	}
	for n := range pages {
		// Those that were lost on the way were written too.
		w.safe[n] = w.last[n]
	}
	w.d.Crash(0)
	w.found()
}

// begin makes a world in which these pages are dirty, in this order.
func begin(t *testing.T, numbers ...int) *world {
	w := newWorld(t)
	for _, n := range numbers {
		w.change(n)
	}
	return w
}

var crashes = []struct {
	name  string
	begin func(*testing.T) *world
	calls []func(*Pool) api.Errno
}{
	{"Flush of a page", func(t *testing.T) *world { return begin(t, 0) }, calls(flushOf(0))},
	{"Flush of a page with several records", func(t *testing.T) *world { return begin(t, 2, 2, 1, 2, 2, 1, 2) }, calls(flushOf(2))},
	{"Flush of a page that was written", func(t *testing.T) *world {
		w := begin(t, 5, 4)
		w.try(flushOf(5))
		w.change(5)
		return w
	}, calls(flushOf(5))},
	{"Flush of one page behind the other", func(t *testing.T) *world { return begin(t, 3, 1) }, calls(flushOf(3), flushOf(1), flushOf(0))},
	{"FlushAll", func(t *testing.T) *world { return begin(t, 4, 0, 2, 4) }, calls(flushAll)},
	{"FlushAll of pages that were written", func(t *testing.T) *world {
		w := begin(t, 4, 0, 2, 4)
		w.try(flushAll)
		w.change(4)
		w.change(0)
		return w
	}, calls(flushAll)},
	{"FlushAll with many records", func(t *testing.T) *world {
		return begin(t, 1, 1, 1, 1, 1, 1, 5, 1, 1, 5, 1, 1)
	}, calls(flushAll)},
	{"Get in place of a dirty page", func(t *testing.T) *world { return begin(t, 0, 1, 2) }, calls(getOf(3), getOf(4), getOf(5), getOf(0))},
	{"Put in place of a dirty page", func(t *testing.T) *world { return begin(t, 5, 4, 3) }, calls(putOf(0), putOf(1), putOf(2))},
	{"Get in place of a page that was written", func(t *testing.T) *world {
		w := begin(t, 5, 3, 1)
		w.try(flushAll)
		w.change(3)
		w.change(5)
		return w
	}, calls(getOf(0), getOf(2), getOf(4))},
	{"Get, and some that aren't dirty", func(t *testing.T) *world {
		w := begin(t, 0)
		w.get(1)
		w.change(2)
		return w
	}, calls(getOf(3), getOf(4), getOf(5), flushAll)},
}

func calls(all ...func(*Pool) api.Errno) []func(*Pool) api.Errno { return all }

func flushOf(n int) func(*Pool) api.Errno {
	return func(p *Pool) api.Errno { return p.Flush(n) }
}

func flushAll(p *Pool) api.Errno { return p.FlushAll() }

// Behind each write, and ahead of each barrier, with each choice of what is kept.
func TestCrashes(t *testing.T) {
	for _, c := range crashes {
		t.Run(c.name, func(t *testing.T) {
			for n := 0; ; n++ {
				broken := func() (*world, api.Errno) {
					w := c.begin(t)
					w.d.Arm(0, n)
					for _, call := range c.calls {
						if e := w.try(call); e != api.OK {
							return w, e
						}
					}
					return w, api.OK
				}
				w, e := broken()
				if e != api.OK && e != api.ErrDown {
					t.Fatal(e)
				}
				for mask := range uint64(1) << w.d.Waits(0) {
					w, _ := broken()
					w.d.Crash(mask)
					w.found()
					w.goOn()
				}
				if e == api.OK {
					return
				}
			}
		})
	}
}

// The records of a page that go on over sectors of the lane: while these are written, no sector of the page is.
func TestLaneGoesAhead(t *testing.T) {
	for n := 0; ; n++ {
		w := newWorld(t)
		for range 20 {
			w.change(1)
		}
		w.d.Arm(0, n)
		e := w.try(flushOf(1))
		// 220 bytes behind the Check's 11: five sectors.
		if n <= 5 && slices.Max(w.raw(1)) > 0 {
			t.Fatalf("the page is written behind %d writes", n)
		}
		if e == api.OK {
			if n != 5+perPage+1 {
				t.Fatalf("%d writes", n)
			}
			return
		}
	}
}

// TestManyCrashes: one pool through many calls and crashes, by chance (always the same).
func TestManyCrashes(t *testing.T) {
	for seed := range int64(60) {
		chance := rand.New(rand.NewSource(seed))
		w := newWorld(t)
		for range 120 {
			e := api.OK
			if w.l.Room() < 1000 {
				break
			}
			n := chance.Intn(pages)
			switch chance.Intn(12) {
			case 0:
				e = w.try(flushAll)
			case 1, 2:
				e = w.try(flushOf(n))
			case 3:
				w.d.Arm(0, chance.Intn(30))
			case 4:
				if e := w.l.Flush(); e != api.OK && e != api.ErrDown {
					t.Fatal(e)
				}
			default:
				if e = w.try(getOf(n)); e == api.OK {
					w.change(n)
				}
			}
			if e != api.OK && e != api.ErrDown {
				t.Fatal(e)
			}
			if e != api.OK || chance.Intn(20) == 0 {
				w.d.Crash(chance.Uint64())
				w.found()
				w.recover()
			}
		}
	}
}

// recover puts each torn page anew, and takes each other one as it is.
func (w *world) recover() {
	w.t.Helper()
	for n := range pages {
		x, e := w.p.Get(n)
		switch {
		case e == api.OK:
			w.safe[n], w.last[n] = x.Mark, x.Mark
		case e == api.ErrTorn && w.safe[n] != w.last[n]:
			again := page.Page{Number: n}
			if w.safe[n] > 0 {
				again = w.made[w.safe[n]]
			}
			w.put(again)
			w.change(n)
			if e := w.try(flushOf(n)); e != api.OK {
				w.t.Fatal(e)
			}
		default:
			w.t.Fatal(e)
		}
	}
}

// A new pool, with the lane that was opened, has the pages as they were written.
func TestReopened(t *testing.T) {
	w := begin(t, 0, 1, 2, 3, 4, 5)
	if e := w.try(flushAll); e != api.OK {
		t.Fatal(e)
	}
	w.d.Crash(0)
	l, all, e := lane.Open(w.d, 0)
	if e != api.OK || len(all) != 7 {
		t.Fatal(all, e)
	}
	p := New(w.d, 0, l)
	for n := range pages {
		if x := mustGet(t, p, n); *x != w.made[w.last[n]] || !p.Clean(n) {
			t.Fatal(x)
		}
	}
}
