package lane

import (
	"math/rand"
	"slices"
	"testing"

	"tenement/api"
	"tenement/disk"
	"tenement/record"
)

// A world is a lane on its disk, and what may be found of it behind a crash.
type world struct {
	t          *testing.T
	d          *disk.Disk
	l          *Lane
	generation uint64
	all        []api.Record   // what was appended
	sure       int            // how many of these are durable
	others     [][]api.Record // of each Anew that failed, and may have happened: all records
}

func newWorld(t *testing.T) *world {
	d, l := newLane(t)
	return &world{t: t, d: d, l: l, generation: 1, all: begun(), sure: 1}
}

func (w *world) append(records ...api.Record) api.Errno {
	for _, r := range records {
		ahead := bytesOf(w.all...)
		p, e := w.l.Append(r)
		if e != api.OK || p != w.generation<<20+uint64(ahead)+1 {
			w.t.Fatalf("Append: %d, %v", p, e)
		}
		w.all = append(w.all, r)
	}
	wantLen(w.t, w.l, bytesOf(w.all...))
	return api.OK
}

func (w *world) flush() api.Errno {
	e := w.l.Flush()
	if e == api.OK && w.sure < len(w.all) {
		w.sure, w.others = len(w.all), nil
	}
	wantLen(w.t, w.l, bytesOf(w.all...))
	return e
}

func (w *world) anew(records ...api.Record) api.Errno {
	e := w.l.Anew(records...)
	if e == api.OK {
		w.generation++
		w.all, w.sure, w.others = slices.Clone(records), len(records), nil
	} else {
		w.others = append(w.others, slices.Clone(records))
	}
	wantLen(w.t, w.l, bytesOf(w.all...))
	return e
}

// open opens the lane, and holds what is found against what may be: that is what the world has from now on.
func (w *world) open() api.Errno {
	l, all, e := Open(w.d, 0)
	if e != api.OK {
		if e != api.ErrDown || l != nil || len(all) > 0 {
			w.t.Fatalf("Open: %v, %v, %v", l, all, e)
		}
		return e
	}
	found := w.match(all)
	wantLen(w.t, l, bytesOf(found...))
	w.l, w.all, w.sure, w.others = l, found, len(found), nil
	return api.OK
}

func (w *world) match(all []Entry) []api.Record {
	w.t.Helper()
	// The head tells which of its lanes it is, even if that one has no records.
	switch uint64(read(w.t, w.d, head)[3]) {
	case w.generation:
		if len(all) >= w.sure && len(all) <= len(w.all) && same(all, w.generation, w.all[:len(all)]) {
			return slices.Clone(w.all[:len(all)])
		}
	case w.generation + 1:
		for _, other := range w.others {
			if len(all) == len(other) && same(all, w.generation+1, other) {
				w.generation++
				return other
			}
		}
	}
	w.t.Fatalf("found %v; want at least %d of %v, or one of %v", all, w.sure, w.all, w.others)
	return nil
}

func same(all []Entry, generation uint64, records []api.Record) bool {
	ahead := 0
	for i, r := range records {
		if !record.Same(all[i].Record, r) || all[i].Place != generation<<20+uint64(ahead)+1 {
			return false
		}
		ahead += bytesOf(r)
	}
	return true
}

// reopen crashes the disk, and opens the lane.
func (w *world) reopen(mask uint64) {
	w.t.Helper()
	w.d.Crash(mask)
	if e := w.open(); e != api.OK {
		w.t.Fatalf("Open: %v", e)
	}
}

// goOn appends on over several sectors, first to the end of one, so that all that is stored behind the records would show.
func (w *world) goOn() {
	w.t.Helper()
	w.fill()
	for _, r := range []api.Record{commit(201), update(202), commit(203), update(204), update(205), commit(206)} {
		w.append(r)
		if e := w.flush(); e != api.OK {
			w.t.Fatalf("Flush: %v", e)
		}
		w.reopen(0)
		w.wantAll()
	}
	if e := w.anew(update(207)); e != api.OK {
		w.t.Fatalf("Anew: %v", e)
	}
	w.fill()
	w.reopen(0)
	w.wantAll()
	if e := w.anew(commit(208), update(209)); e != api.OK {
		w.t.Fatalf("Anew: %v", e)
	}
	w.reopen(0)
	w.wantAll()
}

// fill appends as few bytes as make a record end at the end of a sector, and flushes.
func (w *world) fill() {
	w.t.Helper()
	for end := (w.l.Len()/load + 1) * load; ; end += load {
		if updates, commits, ok := parts(end - w.l.Len()); ok {
			for i := range updates {
				w.append(update(byte(220 + i)))
			}
			for i := range commits {
				w.append(commit((240 + i) % 256))
			}
			break
		}
	}
	if e := w.flush(); e != api.OK || w.l.Len()%load > 0 {
		w.t.Fatalf("Flush of %d bytes: %v", w.l.Len(), e)
	}
	w.reopen(0)
	w.wantAll()
}

// parts: how many updates and commits have just so many bytes.
func parts(n int) (int, int, bool) {
	for updates := 0; updates*slotted <= n; updates++ {
		if rest := n - updates*slotted; rest%small == 0 {
			return updates, rest / small, true
		}
	}
	return 0, 0, false
}

// wantAll: nothing was lost, and nothing is there that wasn't durable.
func (w *world) wantAll() {
	w.t.Helper()
	if w.sure != len(w.all) {
		w.t.Fatalf("only %d records of %d", w.sure, len(w.all))
	}
}

// explore does something on a world, with a disk that goes down behind each number of writes, and ahead of each barrier; and then, for each choice of what a crash keeps, goes on.
func explore(begin func() *world, act func(*world) api.Errno, on func(func() *world)) {
	for n := 0; ; n++ {
		broken := func() (*world, api.Errno) {
			w := begin()
			w.d.Arm(0, n)
			return w, act(w)
		}
		w, e := broken()
		for mask := range uint64(1) << w.d.Waits(0) {
			on(func() *world {
				w, _ := broken()
				w.d.Crash(mask)
				return w
			})
		}
		if e == api.OK {
			return
		}
		if e != api.ErrDown {
			w.t.Fatal(e)
		}
	}
}

// A way is what a lane has durably, and what is done then.
type way struct {
	name    string
	begin   func(*world)
	act     func(*world) api.Errno
	crashes int // for how many it is small enough
}

func ways() []way {
	long := func(first int) []api.Record {
		return append([]api.Record{update(byte(first)), update(byte(first + 1))}, commits(first+2, first+10)...)
	}
	flushed := func(records ...api.Record) func(*world) {
		return func(w *world) {
			w.append(records...)
			w.flush()
		}
	}
	nothing := func(*world) {}
	both := func(a, b func(*world) api.Errno) func(*world) api.Errno {
		return func(w *world) api.Errno {
			if e := a(w); e != api.OK {
				return e
			}
			return b(w)
		}
	}
	flush := func(records ...api.Record) func(*world) api.Errno {
		return func(w *world) api.Errno {
			w.append(records...)
			return w.flush()
		}
	}
	anew := func(records ...api.Record) func(*world) api.Errno {
		return func(w *world) api.Errno { return w.anew(records...) }
	}
	return []way{
		{"one record over a border", nothing, flush(update(1)), 3},
		{"two records over borders", nothing, flush(update(1), update(2)), 3},
		{"up to a border", flushed(update(1), update(2)), flush(commits(3, 8)...), 3},
		{"from a border on", flushed(append([]api.Record{update(1), update(2)}, commits(3, 8)...)...), flush(commits(20, 30)...), 3},
		{"four sectors", nothing, flush(long(1)...), 2},
		{"the greatest record", nothing, flush(greatest(1)), 1},
		{"two flushes", flushed(commit(1)), both(flush(update(2)), flush(update(3))), 3},
		{"anew without records", flushed(update(1)), anew(), 3},
		{"anew with some", flushed(update(1)), anew(long(50)...), 2},
		{"anew with what wasn't flushed", func(w *world) { w.append(update(1)) }, anew(update(1)), 3},
		{"anew twice", nothing, both(anew(update(1)), anew(update(2), update(3))), 3},
		{"anew, and a flush", flushed(long(1)...), both(anew(update(1)), flush(update(2))), 3},
		{"a flush, and anew", nothing, both(flush(update(1)), anew(commit(2))), 3},
	}
}

// TestCrashes: each way is broken off everywhere, whatever is kept; then the lane is opened, gone on with, and opened again.
func TestCrashes(t *testing.T) {
	for _, way := range ways() {
		t.Run(way.name, func(t *testing.T) {
			begin := func() *world {
				w := newWorld(t)
				way.begin(w)
				return w
			}
			explore(begin, way.act, func(crashed func() *world) {
				w := crashed()
				w.reopen(0)
				w.goOn()
			})
		})
	}
}

// TestCrashesInOpen: Open is broken off as well; what it finds then is the same.
func TestCrashesInOpen(t *testing.T) {
	for _, way := range ways() {
		if way.crashes < 2 {
			continue
		}
		t.Run(way.name, func(t *testing.T) {
			begin := func() *world {
				w := newWorld(t)
				way.begin(w)
				return w
			}
			explore(begin, way.act, func(crashed func() *world) {
				w := crashed()
				w.reopen(0)
				generation, found := w.generation, w.all
				explore(crashed, (*world).open, func(again func() *world) {
					w := again()
					w.reopen(0)
					if w.generation != generation || !slices.EqualFunc(w.all, found, record.Same) {
						t.Fatalf("found %v, and ahead of the second crash %v", w.all, found)
					}
					w.goOn()
				})
			})
		})
	}
}

// TestCrashesOnceMore: what comes behind Open is broken off as well.
func TestCrashesOnceMore(t *testing.T) {
	acts := []func(*world) api.Errno{
		func(w *world) api.Errno { w.append(update(100)); return w.flush() },
		func(w *world) api.Errno { w.append(update(100), update(101), commit(102)); return w.flush() },
		func(w *world) api.Errno { return w.anew(update(100), update(101)) },
		func(w *world) api.Errno { return w.anew() },
	}
	for _, way := range ways() {
		if way.crashes < 3 {
			continue
		}
		t.Run(way.name, func(t *testing.T) {
			begin := func() *world {
				w := newWorld(t)
				way.begin(w)
				return w
			}
			explore(begin, way.act, func(crashed func() *world) {
				opened := func() *world {
					w := crashed()
					w.reopen(0)
					return w
				}
				for _, act := range acts {
					explore(opened, act, func(again func() *world) {
						w := again()
						w.reopen(0)
						w.goOn()
					})
				}
			})
		})
	}
}

// The beginning of a frame that wasn't kept whole never meets the end of a later one.
func TestCutFrameMeetsNoEnd(t *testing.T) {
	d, l := newLane(t)
	mustAppend(t, l, update(1))
	d.Arm(0, 2)
	if e := l.Flush(); e != api.ErrDown {
		t.Fatal(e)
	}
	d.Crash(1) // of the frame's two sectors, the first one
	l = wantOpen(t, d, 1, begun()...)
	mustAppend(t, l, update(100))
	d.Arm(0, 2)
	if e := l.Flush(); e != api.ErrDown {
		t.Fatal(e)
	}
	d.Crash(2) // the second one
	wantOpen(t, d, 1, begun()...)
}

// A sector that was kept alone never comes back when those ahead of it are full.
func TestStoredBehindNeverReappears(t *testing.T) {
	three := append([]api.Record{update(1), update(2)}, commits(3, 8)...)
	d, l := newLane(t)
	mustAppend(t, l, append(slices.Clone(three), commits(10, 14)...)...)
	d.Arm(0, 4)
	if e := l.Flush(); e != api.ErrDown {
		t.Fatal(e)
	}
	d.Crash(8)
	l = wantOpen(t, d, 1, begun()...)
	mustAppend(t, l, three...)
	wantLen(t, l, 3*load)
	mustFlush(t, l)
	d.Crash(0)
	wantOpen(t, d, 1, begun(three...)...)
}

// Nor does one of an Anew that failed.
func TestStoredByAFailedAnewNeverReappears(t *testing.T) {
	three := begun(append([]api.Record{update(1), update(2)}, commits(3, 8)...)...)
	for kept := range uint64(16) {
		for _, crash := range []bool{true, false} {
			d, l := newLane(t)
			d.Arm(0, 4)
			if e := l.Anew(append(slices.Clone(three), commits(10, 14)...)...); e != api.ErrDown {
				t.Fatal(e)
			}
			if crash {
				d.Crash(kept)
				l = wantOpen(t, d, 1, begun()...)
			} else {
				d.Arm(0, 1000)
			}
			mustAnew(t, l, three[:1]...)
			mustAppend(t, l, three[1:]...)
			wantLen(t, l, 3*load)
			mustFlush(t, l)
			d.Crash(0)
			wantOpen(t, d, 2, three...)
		}
	}
}

// A lane whose Anew or Flush has failed goes on as before when its region is up again without a crash.
func TestFailedThenUpAgain(t *testing.T) {
	first := []func(*world) api.Errno{
		func(w *world) api.Errno { return w.anew(update(50), commit(51)) },
		func(w *world) api.Errno { return w.anew() },
		func(w *world) api.Errno { w.append(update(50), update(51)); return w.flush() },
	}
	then := []func(*world) api.Errno{
		func(w *world) api.Errno { w.append(commit(60)); return w.flush() },
		func(w *world) api.Errno { w.append(update(60), update(61)); return w.flush() },
		func(w *world) api.Errno { return w.anew(update(60), update(61)) },
		func(w *world) api.Errno { return w.anew() },
		func(w *world) api.Errno { return w.flush() },
		func(w *world) api.Errno { return w.open() },
		func(w *world) api.Errno { w.anew(update(60)); w.d.Arm(0, 4); return w.anew(commit(61)) },
	}
	for _, a := range first {
		for n := 0; ; n++ {
			failed := func() (*world, api.Errno) {
				w := newWorld(t)
				w.append(update(1))
				w.flush()
				w.d.Arm(0, n)
				return w, a(w)
			}
			if _, e := failed(); e == api.OK {
				break
			}
			for _, b := range then {
				begin := func() *world {
					w, _ := failed()
					return w
				}
				explore(begin, b, func(again func() *world) {
					w := again()
					w.reopen(0)
					w.goOn()
				})
			}
		}
	}
}

// A head that was taken back is taken back once.
func TestFlushBehindAFailedAnew(t *testing.T) {
	d, l := newLane(t)
	d.Arm(0, 2)
	if e := l.Anew(commit(1)); e != api.ErrDown {
		t.Fatal(e)
	}
	d.Arm(0, 1000)
	mustAppend(t, l, commit(2))
	mustFlush(t, l)
	for i := range 3 {
		writes := d.Writes()
		mustAppend(t, l, commit(3+i))
		mustFlush(t, l)
		if d.Writes() != writes+1 {
			t.Errorf("%d writes for one sector", d.Writes()-writes)
		}
	}
	d.Crash(0)
	wantOpen(t, d, 1, begun(commits(2, 6)...)...)
}

// What was found by Open is durable, even if it waited ahead of it.
func TestOpenMakesDurable(t *testing.T) {
	for n := range 4 {
		w := newWorld(t)
		w.append(update(1), update(2))
		w.d.Arm(0, n)
		if e := w.flush(); e != api.ErrDown {
			t.Fatal(e)
		}
		// In a region that is down, nothing can be made durable.
		wantNone(t, w.d, 0, api.ErrDown)
		w.d.Arm(0, 100)
		if e := w.open(); e != api.OK {
			t.Fatal(e)
		}
		w.reopen(0)
		w.wantAll()
		w.goOn()
	}
}

// More writes wait than a mask has bits: each bit stands for several.
func TestCrashOfALongFlush(t *testing.T) {
	for _, n := range []int{64, 65, 100, 200, 248, 249} {
		for _, mask := range []uint64{0, 1, 2, 3, 1 << 63, 1<<63 - 1, 1<<64 - 1, 1<<64 - 2, 0xffff, 1<<64 - 1 - 1<<20} {
			w := newWorld(t)
			w.append(sized(t, size-check-most)...)
			w.d.Arm(0, n)
			if e := w.flush(); e != api.ErrDown {
				t.Fatal(e)
			}
			w.reopen(mask)
			w.append(update(3))
			if e := w.flush(); e != api.OK {
				t.Fatal(e)
			}
			w.reopen(0)
			w.wantAll()
		}
	}
}

// TestManyCrashes: one lane through many calls and crashes, by chance (always the same).
func TestManyCrashes(t *testing.T) {
	for seed := range int64(40) {
		chance := rand.New(rand.NewSource(seed))
		some := func() []api.Record {
			var all []api.Record
			for range chance.Intn(7) {
				switch first := chance.Intn(256); chance.Intn(8) {
				case 0:
					all = append(all, greatest(byte(first)))
				case 1, 2, 3:
					all = append(all, update(byte(first)))
				default:
					all = append(all, commit(first))
				}
			}
			return all
		}
		w := newWorld(t)
		down := false
		for range 300 {
			e := api.OK
			switch chance.Intn(10) {
			case 0:
				if chance.Intn(3) == 0 {
					e = w.anew(some()...)
				}
			case 1:
				w.d.Arm(0, chance.Intn(12))
			case 2:
				w.d.Crash(chance.Uint64())
				down = true
			case 3, 4, 5:
				e = w.flush()
			default:
				if w.l.Room() > 6*most {
					w.append(some()...)
				} else {
					e = w.anew(some()...)
				}
			}
			for down || e != api.OK {
				if e != api.OK && e != api.ErrDown {
					t.Fatal(e)
				}
				w.d.Crash(chance.Uint64())
				if chance.Intn(2) == 0 {
					w.d.Arm(0, chance.Intn(5))
				}
				e, down = w.open(), false
			}
		}
	}
}
