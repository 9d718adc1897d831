package store

import (
	"crypto/sha256"
	"math"
	"math/rand"
	"slices"
	"strconv"
	"testing"

	"tenement/api"
	"tenement/disk"
)

// diskOf: a disk with these sectors, all of them durable.
func diskOf(t *testing.T, image []byte) *disk.Disk {
	t.Helper()
	d := disk.New(1, api.Region)
	for s := range api.Region {
		b := image[s*api.Sector:][:api.Sector]
		if slices.Equal(b, make([]byte, api.Sector)) {
			continue
		}
		if e := d.Write(0, s, b); e != api.OK {
			t.Fatal(e)
		}
	}
	d.Crash(math.MaxUint64)
	return d
}

// masks: of so many writes, which ones a crash keeps; all choices, if there are few.
func masks(r *rand.Rand, writes int) []uint64 {
	var all []uint64
	if writes <= 4 {
		for mask := range uint64(1) << writes {
			all = append(all, mask)
		}
		return all
	}
	all = []uint64{0, math.MaxUint64, 1, 1 << (writes - 1), ^uint64(1), 1<<(writes-1) - 1}
	for range 4 {
		all = append(all, r.Uint64())
	}
	return all
}

// A script is what was done for sure, what is done then, and what is done with a disk that goes down at some point.
type script struct {
	name   string
	stored []step
	ahead  []op
	ops    []op
	packs  uint32 // how often the lane is packed then
}

// An explorer breaks off whatever is done with a store.
type explorer struct {
	t    *testing.T
	r    *rand.Rand
	seen map[[32]byte]bool
	part int // of the images that are found, each one in so many is opened with a disk that goes down
}

func newExplorer(t *testing.T, part int) *explorer {
	return &explorer{t: t, r: rand.New(rand.NewSource(1)), seen: map[[32]byte]bool{}, part: part}
}

// broken: a world behind so many writes of a script, what may be found behind a crash, and whether the script was broken off.
func (x *explorer) broken(s script, image []byte, m model, n int) (*world, []*model, bool) {
	w := &world{t: x.t, d: diskOf(x.t, image), m: &m}
	w.run(crash(0))
	w.run(s.ahead...)
	w.d.Arm(0, n)
	for _, o := range s.ops {
		may := []*model{w.m.behind()}
		if o.name == "commit" {
			may = append(may, w.m.committed(o.txn))
		}
		if w.do(o) == api.ErrDown {
			return w, may, true
		}
	}
	return w, []*model{w.m.behind()}, false
}

// script breaks off a script behind each number of writes, whatever the crash keeps.
func (x *explorer) script(s script) {
	begun := newWorld(x.t)
	for _, step := range s.stored {
		begun.run(step.op)
	}
	begun.run(crash(0))
	image := sectors(x.t, begun.d, 0, api.Region)
	for n, down := 0, true; down; n++ {
		var w *world
		w, _, down = x.broken(s, image, *begun.m, n)
		if !down && w.generation() != 3+s.packs {
			x.t.Errorf("packed %d times; want %d", w.generation()-3, s.packs)
		}
		for _, mask := range masks(x.r, w.d.Waits(0)) {
			w, may, _ := x.broken(s, image, *begun.m, n)
			w.d.Crash(mask)
			x.found(sectors(x.t, w.d, 0, api.Region), may, 0)
		}
	}
}

// found opens what a crash has left (so many crashes were in Open), which must be one of these; and goes on from there.
func (x *explorer) found(image []byte, may []*model, opened int) {
	w := &world{t: x.t, d: diskOf(x.t, image)}
	w.open(may)
	sum := sha256.Sum256(image)
	if x.seen[sum] {
		return
	}
	x.seen[sum] = true
	m := *w.m
	w.goOn()
	if opened < 2 && x.r.Intn(x.part) == 0 {
		x.breakOpen(image, &m, opened)
	}
}

// open opens a world's store, which must be as one of these models; the world has that one from now on.
func (w *world) open(may []*model) {
	w.t.Helper()
	s, e := Open(w.d, 0)
	if e != api.OK {
		w.t.Fatal(e)
	}
	// By slots too: a transaction may have moved a row, and done nothing else.
	at := slices.IndexFunc(may, func(m *model) bool { return m.slotted() == found(s) })
	if at < 0 {
		w.t.Fatalf("found %v; want %v, or one of %d others", s.Rows(), may[0].rows(), len(may)-1)
	}
	w.s, w.m = s, may[at].behind()
	w.wantSame("Open")
	w.wantPages("Open")
}

// slotted: each slot's row; found: that of a store's.
func (m *model) slotted() (all [places]api.Row) {
	for i, r := range m.slots {
		all[i].Table = -1
		if r != nil {
			all[i] = *r
		}
	}
	return all
}

func found(s *Store) (all [places]api.Row) {
	for i := range all {
		all[i].Table = -1
	}
	for i := range s.index.All {
		all[i.Page*api.Slots+i.Slot] = i.Row
	}
	return all
}

// breakOpen breaks off Open behind each number of writes.
func (x *explorer) breakOpen(image []byte, m *model, opened int) {
	broken := func(n int) (*disk.Disk, api.Errno) {
		d := diskOf(x.t, image)
		d.Arm(0, n)
		s, e := Open(d, 0)
		if e != api.OK && (e != api.ErrDown || s != nil) {
			x.t.Fatalf("Open: %v, %v", s, e)
		}
		return d, e
	}
	for n := 0; ; n++ {
		d, e := broken(n)
		for _, mask := range masks(x.r, d.Waits(0)) {
			d, _ := broken(n)
			d.Crash(mask)
			x.found(sectors(x.t, d, 0, api.Region), []*model{m.behind()}, opened+1)
		}
		if e == api.OK {
			return
		}
	}
}

// goOn: what is done behind a crash lasts, and nothing that was stored before comes back.
func (w *world) goOn() {
	w.t.Helper()
	w.run(begin(), begin(), put(1, "a", "on"), at(3, put(2, "on", "on")), write(0), commit(1), write(5), crash(0))
	w.run(begin(), del(1, "a"), put(1, "b", "on"), point(), crash(-1))
	w.run(begin(), put(1, "b", "on"), pack(), commit(1), crash(0))
}

func scripts() []script {
	two := stored(is("a", "1"), is("b", "2"))
	// A change of a row in each of these pages, of a full store.
	over := func(txn int, pages ...int) []op {
		return mapped(pages, func(n int) op { return put(txn, keys(places)[n*api.Slots+txn], "w"+strconv.Itoa(n)) })
	}
	changes := []op{begin(), put(1, "a", "x"), put(1, "c", "y"), del(1, "b"), save(1), put(1, "a", "z"), del(1, "c")}
	on := func(l ...op) []op { return slices.Concat(changes, l) }
	return []script{
		{"a first put", nil, nil, []op{begin(), put(1, "a", "x"), commit(1)}, 0},
		{"puts", two, nil, []op{begin(), put(1, "a", "x"), put(1, "c", "y"), commit(1), begin(), put(1, "c", "z"), commit(1)}, 0},
		{"changes", two, nil, on(commit(1)), 0},
		{"changes, written", two, nil, on(write(0), commit(1), write(0)), 0},
		{"changes, written on the way", two, nil, []op{begin(), put(1, "a", "x"), write(0), put(1, "c", "y"), write(0), del(1, "b"), write(0), commit(1)}, 0},
		{"back", two, nil, on(write(0), back(1, 1), write(0), commit(1), write(0)), 0},
		{"back, and on", two, nil, on(back(1, 1), write(0), put(1, "d", "u"), commit(1), pack()), 1},
		{"abort", two, nil, on(abort(1), write(0)), 0},
		{"abort, written", two, nil, on(write(0), abort(1), write(0), begin(), put(1, "b", "x"), commit(1)), 0},
		{"point", two, nil, on(point(), write(0), back(1, 1), point(), write(0), point(), commit(1)), 0},
		{"point behind a write", two, nil, on(write(0), point(), back(1, 1), write(0), commit(1)), 0},
		{"pack", two, nil, on(pack(), back(1, 1), pack(), commit(1), pack()), 3},
		{"pack behind pack", two, nil, on(pack(), pack(), write(0), abort(1), write(0)), 2},
		{"two", two, []op{begin(), begin()}, []op{put(1, "a", "x"), put(2, "b", "y"), write(0), put(2, "c", "z"), commit(1), write(0), put(2, "d", "u"), point(), write(0)}, 0},
		{"two, and both commit", two, []op{begin(), begin()}, []op{put(1, "a", "x"), put(2, "b", "y"), write(0), commit(2), put(1, "c", "z"), commit(1)}, 0},
		{"three", two, []op{begin(), begin(), begin(), put(1, "a", "x"), put(2, "b", "y"), put(3, "c", "z")}, []op{pack(), put(3, "d", "u"), abort(2), write(0), commit(3), point(), commit(1)}, 1},
		{"a slot for several", two, []op{begin(), begin()}, []op{del(1, "a"), commit(1), put(2, "c", "x"), write(0), begin(), put(1, "d", "y"), abort(2), put(1, "e", "z"), commit(1)}, 0},
		{"pages", full(), nil, slices.Concat([]op{begin()}, over(1, 0, 1, 2, 3, 4, 5, 0), []op{commit(1)}), 0},
		{"pages, undone", full(), slices.Concat([]op{begin(), save(1)}, over(1, 0, 1, 2)), slices.Concat(over(1, 3, 4, 5), []op{back(1, 1), over(1, 0)[0], commit(1)}), 0},
		{"pages of two", full(), slices.Concat([]op{begin(), begin()}, over(2, 0, 1)), slices.Concat(over(1, 3, 0, 4), over(2, 5), []op{commit(1), point(), over(2, 2)[0], pack()}), 1},
		{"a full lane", two, slices.Concat([]op{begin(), put(1, "b", "x")}, slices.Repeat([]op{begin(), put(2, "a", "1"), put(2, "a", "2"), commit(2)}, 54)),
			[]op{begin(), put(2, "a", "3"), commit(2), begin(), put(2, "a", "4"), write(0), put(1, "b", "y"), put(2, "a", "5"), commit(1)}, 1},
		{"a lane full of marks", two, slices.Concat(changes, slices.Repeat([]op{point()}, 164)), []op{point(), point(), write(0), point(), point(), back(1, 1), point(), commit(1)}, 1},
	}
}

// Whatever is broken off, and whatever is kept: what was committed is there, and nothing else.
func TestCrashes(t *testing.T) {
	for _, s := range scripts() {
		t.Run(s.name, func(t *testing.T) {
			t.Parallel()
			// A full store is so much to write that few of its openings can be broken off everywhere.
			part := 40
			if len(s.stored) > places {
				part = 400
			}
			newExplorer(t, part).script(s)
		})
	}
}

// Long rows of calls, crashes and openings, all of them with a disk that may go down at any time.
func TestLongRowsOfCrashes(t *testing.T) {
	downs := map[string]int{}
	for seed := range int64(20) {
		r := rand.New(rand.NewSource(seed))
		w := newWorld(t)
		for range 150 {
			w.d.Arm(0, r.Intn(1+r.Intn(150)))
			may := w.untilDown(r, downs)
			w.d.Crash(r.Uint64())
			for r.Intn(2) == 0 {
				w.d.Arm(0, r.Intn(40))
				if s, e := Open(w.d, 0); e != api.OK && (e != api.ErrDown || s != nil) {
					t.Fatalf("Open: %v, %v", s, e)
				}
				w.d.Crash(r.Uint64())
			}
			w.open(may)
		}
	}
	for _, name := range []string{"put", "del", "back", "commit", "abort", "point", "pack", "write"} {
		if downs[name] == 0 {
			t.Errorf("%s was never broken off", name)
		}
	}
}

// untilDown does any calls until the disk refuses one: what may be found then.
func (w *world) untilDown(r *rand.Rand, downs map[string]int) []*model {
	for {
		o := w.m.any(r)
		if o.name == "crash" {
			continue
		}
		may := []*model{w.m.behind()}
		if o.name == "commit" {
			may = append(may, w.m.committed(o.txn))
		}
		if w.do(o) == api.ErrDown {
			downs[o.name]++
			return may
		}
	}
}

// A torn page is as its image was, in any region, and then as the records behind it tell.
func TestTornPages(t *testing.T) {
	for _, r := range []int{0, 1, 63} {
		for kept := range uint64(16) {
			d := disk.New(r+1, api.Region)
			s, e := New(d, r)
			if e != api.OK {
				t.Fatal(e)
			}
			must := func(e api.Errno) {
				t.Helper()
				if e != api.OK {
					t.Fatal(e)
				}
			}
			s.Begin()
			must(s.Put(1, is("a", "1")))
			must(s.Put(1, is("b", "2")))
			must(s.Write(0))
			must(s.Put(1, is("b", "y")))
			must(s.Commit(1))
			s.Begin()
			must(s.Put(1, is("a", "x")))
			must(s.lane.Flush())
			d.Arm(r, 4)
			if e := s.Write(0); e != api.ErrDown {
				t.Fatal(e)
			}
			d.Crash(kept)
			s, e = Open(d, r)
			must(e)
			if got := s.Rows(); !slices.Equal(got, []api.Row{is("a", "1"), is("b", "y")}) {
				t.Errorf("region %d, %04b kept: %v", r, kept, got)
			}
		}
	}
}

// Records that a page has already aren't done again: then there is nothing to write but the lane.
func TestNothingIsDoneTwice(t *testing.T) {
	writes := func(ops ...op) int {
		w := newWorld(t)
		w.run(ops...)
		before := w.d.Writes()
		w.run(crash(0))
		return w.d.Writes() - before
	}
	begun := []op{begin(), put(1, "a", "1"), put(1, "b", "2"), commit(1)}
	least := writes(append(begun, pack())...)
	if got := writes(append(begun, write(0))...); got != least {
		t.Errorf("opening took %d writes; want %d", got, least)
	}
	if got := writes(begun...); got != least+4 {
		t.Errorf("opening took %d writes; want %d", got, least+4)
	}
}

// Nor is what stands ahead of a mark, and was written by then; not even if somebody takes the page away.
func TestFromTheMarkOn(t *testing.T) {
	w := newWorld(t)
	w.run(begin(), put(1, "a", "1"), write(0), point(), put(1, "b", "2"), commit(1))
	for i := range 4 {
		w.d.Write(0, first+i, nil)
	}
	w.d.Crash(math.MaxUint64)
	s, e := Open(w.d, 0)
	if e != api.OK || !slices.Equal(s.Rows(), []api.Row{is("b", "2")}) {
		t.Errorf("Open: %v, %v", s.Rows(), e)
	}
}
