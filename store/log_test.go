package store

import (
	"encoding/binary"
	"math"
	"slices"
	"strconv"
	"testing"

	"tenement/api"
	"tenement/disk"
	"tenement/lane"
	"tenement/page"
	"tenement/record"
)

// log: the records of a world's lane, all of them made durable.
func (w *world) log() []lane.Entry {
	w.t.Helper()
	if e := w.s.lane.Flush(); e != api.OK {
		w.t.Fatal(e)
	}
	return w.durable()
}

// durable: the records that the disk has.
func (w *world) durable() []lane.Entry {
	w.t.Helper()
	_, all, e := lane.Open(w.d, 0)
	if e != api.OK {
		w.t.Fatal(e)
	}
	return all
}

func wantLog(t *testing.T, got []lane.Entry, want ...api.Record) {
	t.Helper()
	for i := range max(len(got), len(want)) {
		switch {
		case i >= len(want):
			t.Errorf("record %d: %+v; want none", i, got[i].Record)
		case i >= len(got):
			t.Errorf("record %d: none; want %+v", i, want[i])
		case !record.Same(got[i].Record, want[i]):
			t.Errorf("record %d: %+v; want %+v", i, got[i].Record, want[i])
		}
	}
}

// generation: that of the lane which the disk has.
func (w *world) generation() uint32 {
	w.t.Helper()
	return binary.BigEndian.Uint32(sectors(w.t, w.d, 1, 1))
}

var check = api.Record{Kind: api.Check}

// clean: an image of a page that has never been written.
var clean = string(make([]byte, api.PageSize))

func update(txn, slot int, before, after, image string) api.Record {
	return api.Record{Kind: api.Update, Txn: txn, Slot: slot, Before: before, After: after, Image: image}
}

func undo(txn, slot int, before, after, image string) api.Record {
	return api.Record{Kind: api.Undo, Txn: txn, Slot: slot, Before: before, After: after, Image: image}
}

func carry(txn, page, slot int, before string) api.Record {
	return api.Record{Kind: api.Carry, Txn: txn, Page: page, Slot: slot, Before: before}
}

func mark(dirty ...uint64) api.Record {
	return api.Record{Kind: api.Mark, Dirty: append(dirty, make([]uint64, api.Pages-len(dirty))...)}
}

func over(kind, txn int) api.Record { return api.Record{Kind: kind, Txn: txn} }

var a, b, x, y = slot(is("a", "1")), slot(is("b", "2")), slot(is("a", "x")), slot(is("b", "y"))

// Each change has a record, with the page as it was if that one is clean.
func TestRecords(t *testing.T) {
	first := update(1, 0, "", a, clean)
	// Where the second record of a new lane begins.
	place := uint64(1<<20 + 11 + 1)
	image := func(mark uint64, slots ...string) string {
		p := page.Page{Mark: mark}
		for i, s := range slots {
			p.Set(i, s)
		}
		return string(page.Encode(p))
	}
	stories := []struct {
		name string
		ops  []op
		want []api.Record
	}{
		{"nothing", nil, []api.Record{check}},
		{"put", []op{begin(), put(1, "a", "1")}, []api.Record{check, first}},
		{"two puts", []op{begin(), put(1, "a", "1"), put(1, "b", "2")}, []api.Record{check, first, update(1, 1, "", b, "")}},
		{"put over", []op{begin(), put(1, "a", "1"), put(1, "a", "x")}, []api.Record{check, first, update(1, 0, a, x, "")}},
		{"put of the same", []op{begin(), put(1, "a", "1"), put(1, "a", "1")}, []api.Record{check, first, update(1, 0, a, a, "")}},
		{"del", []op{begin(), put(1, "a", "1"), del(1, "a")}, []api.Record{check, first, update(1, 0, a, "", "")}},
		{"put behind a write", []op{begin(), put(1, "a", "1"), write(0), put(1, "b", "2"), put(1, "a", "x")},
			[]api.Record{check, first, update(1, 1, "", b, image(place, a)), update(1, 0, a, x, "")}},
		{"del behind a write", []op{begin(), put(1, "a", "1"), put(1, "b", "2"), write(0), del(1, "a")},
			[]api.Record{check, first, update(1, 1, "", b, ""), update(1, 0, a, "", image(place+11+40+256, a, b))}},
		{"the write of another page", []op{begin(), put(1, "a", "1"), write(1), put(1, "b", "2")}, []api.Record{check, first, update(1, 1, "", b, "")}},
		{"commit", []op{begin(), put(1, "a", "1"), commit(1)}, []api.Record{check, first, over(api.Commit, 1)}},
		{"commit of the second", []op{begin(), begin(), put(1, "a", "1"), put(2, "b", "2"), commit(2)},
			[]api.Record{check, first, update(2, 1, "", b, ""), over(api.Commit, 2)}},
		{"abort", []op{begin(), put(1, "a", "1"), put(1, "a", "x"), put(1, "b", "2"), abort(1)},
			[]api.Record{check, first, update(1, 0, a, x, ""), update(1, 1, "", b, ""), undo(1, 1, b, "", ""), undo(1, 0, x, a, ""), undo(1, 0, a, "", ""), over(api.End, 1)}},
		{"back", []op{begin(), put(1, "a", "1"), save(1), put(1, "a", "x"), put(1, "b", "2"), back(1, 1)},
			[]api.Record{check, first, update(1, 0, a, x, ""), update(1, 1, "", b, ""), undo(1, 1, b, "", ""), undo(1, 0, x, a, "")}},
		{"back behind a write", []op{begin(), save(1), put(1, "a", "1"), write(0), back(1, 1)},
			[]api.Record{check, first, undo(1, 0, a, "", image(place, a))}},
		{"commit and abort of nothing", []op{begin(), begin(), read(1, "a"), commit(1), abort(2)}, []api.Record{check}},
		{"commit of what was undone", []op{begin(), save(1), put(1, "a", "1"), back(1, 1), commit(1)},
			[]api.Record{check, first, undo(1, 0, a, "", "")}},
		{"abort of what was undone", []op{begin(), save(1), put(1, "a", "1"), back(1, 1), abort(1)},
			[]api.Record{check, first, undo(1, 0, a, "", "")}},
		{"refused calls", []op{begin(), begin(), put(1, "a", "1"), put(2, "a", "2"), del(2, "a"), read(2, "a"), scan(2, "a", "b"), del(1, "c"), back(1, 1)},
			[]api.Record{check, first}},
		{"point", []op{point()}, []api.Record{check, mark()}},
		{"point behind a change", []op{begin(), put(1, "a", "1"), put(1, "b", "2"), point()}, []api.Record{check, first, update(1, 1, "", b, ""), mark(place)}},
		{"point behind a write", []op{begin(), put(1, "a", "1"), write(0), point()}, []api.Record{check, first, mark()}},
		{"pack", []op{pack()}, []api.Record{check}},
		{"pack behind commit", []op{begin(), put(1, "a", "1"), commit(1), pack()}, []api.Record{check}},
		{"pack of changes", []op{begin(), put(1, "a", "1"), put(1, "a", "x"), put(1, "b", "2"), pack()},
			[]api.Record{check, carry(1, 0, 0, ""), carry(1, 0, 0, a), carry(1, 0, 1, "")}},
		{"pack of what was undone in part", []op{begin(), put(1, "a", "1"), save(1), put(1, "a", "x"), back(1, 1), pack()}, []api.Record{check, carry(1, 0, 0, "")}},
		{"pack of three", []op{begin(), begin(), begin(), put(3, "a", "1"), put(2, "b", "2"), put(1, "c", ""), put(3, "a", "x"), commit(2), pack()},
			[]api.Record{check, carry(1, 0, 2, ""), carry(3, 0, 0, ""), carry(3, 0, 0, a)}},
		{"pack twice", []op{begin(), put(1, "a", "1"), pack(), pack()}, []api.Record{check, carry(1, 0, 0, "")}},
		{"put behind pack", []op{begin(), put(1, "a", "1"), pack(), put(1, "b", "2")},
			[]api.Record{check, carry(1, 0, 0, ""), update(1, 1, "", b, image(place, a))}},
		{"open", []op{begin(), put(1, "a", "1"), commit(1), begin(), put(1, "b", "2"), point(), crash(0)}, []api.Record{check}},
	}
	for _, s := range stories {
		t.Run(s.name, func(t *testing.T) {
			w := newWorld(t)
			w.run(s.ops...)
			wantLog(t, w.log(), s.want...)
		})
	}
}

// Of other pages too, a record tells which, and a mark tells of all that are dirty.
func TestRecordsOfPages(t *testing.T) {
	w := newWorld(t)
	for i, s := range full() {
		if got := w.call(s.op); !same(got, s.want) {
			t.Fatal(i, got)
		}
	}
	w.s.Pack()
	w.s.Begin()
	for _, k := range []string{"aa", "am", "ba"} { // pages 0, 2 and 5
		if e := w.s.Put(1, is(k, "w")); e != api.OK {
			t.Fatal(e)
		}
	}
	w.s.Write(2)
	w.s.Point()
	all := w.log()
	generation := uint64(w.generation()) << 20
	want := []api.Record{check}
	for _, at := range []int{0, 12, 26} {
		key := keys(places)[at]
		r := api.Record{Kind: api.Update, Txn: 1, Page: at / api.Slots, Slot: at % api.Slots, Before: slot(is(key, "v")), After: slot(is(key, "w"))}
		p := page.Page{Number: r.Page, Mark: binary.BigEndian.Uint64([]byte(all[len(want)].Image))}
		for i, k := range keys(places)[r.Page*api.Slots:][:api.Slots] {
			p.Set(i, slot(is(k, "v")))
		}
		r.Image = string(page.Encode(p))
		want = append(want, r)
	}
	size := uint64(11 + 2*40 + 256)
	want = append(want, mark(generation+12, 0, 0, 0, 0, generation+12+2*size))
	wantLog(t, all, want...)
}

// What a commit, a mark and the write of a page tell lasts; what else is said doesn't last yet.
func TestWhatLasts(t *testing.T) {
	begun := []op{begin(), put(1, "a", "1")}
	stories := []struct {
		name string
		ops  []op
		want []api.Record
	}{
		{"put", nil, nil},
		{"commit", []op{commit(1)}, []api.Record{over(api.Commit, 1)}},
		{"commit of nothing", []op{begin(), commit(2)}, nil},
		{"abort", []op{abort(1)}, nil},
		{"back", []op{back(1, 1)}, nil},
		{"point", []op{point()}, []api.Record{mark(1<<20 + 12)}},
		{"write", []op{write(0)}, []api.Record{}},
		{"the write of another page", []op{write(1)}, nil},
	}
	for _, s := range stories {
		w := newWorld(t)
		w.run(append(begun, s.ops...)...)
		w.d.Crash(0)
		want := []api.Record{check}
		if s.want != nil {
			want = append(append(want, update(1, 0, "", a, clean)), s.want...)
		}
		t.Run(s.name, func(t *testing.T) { wantLog(t, w.durable(), want...) })
	}
}

// pages: what the disk has of all pages.
func (w *world) pages() []page.Page {
	var all []page.Page
	for n := range api.Pages {
		all = append(all, pageOf(w.t, w.d, n))
	}
	return all
}

// Write writes the page of the remainder, and no other one; and that one only if it was changed.
func TestWrite(t *testing.T) {
	numbers := map[int]int{
		0: 0, 1: 1, 2: 2, 3: 3, 4: 4, 5: 5, 6: 0, 7: 1, 11: 5, 12: 0, 601: 1, 256: 4, 1 << 32: 4, 1<<32 + 1: 5, math.MaxInt: 1,
		-1: 5, -2: 4, -5: 1, -6: 0, -7: 5, -12: 0, -600: 0, math.MinInt: 4, math.MinInt + 1: 5,
	}
	for n, number := range numbers {
		for changed := range api.Pages {
			w := newWorld(t)
			for _, s := range full() {
				w.call(s.op)
			}
			w.callAll(pack(), begin(), put(1, keys(places)[changed*api.Slots+3], "w"))
			before, writes := w.pages(), w.d.Writes()
			if e := w.s.Write(n); e != api.OK {
				t.Fatal(e)
			}
			after := w.pages()
			if number != changed {
				if !slices.Equal(after, before) || w.d.Writes() != writes {
					t.Errorf("Write(%d) wrote, though page %d was changed", n, changed)
				}
				continue
			}
			before[changed].Set(3, slot(is(keys(places)[changed*api.Slots+3], "w")))
			before[changed].Mark = uint64(w.generation())<<20 + 12
			if !slices.Equal(after, before) {
				t.Errorf("Write(%d): %v; want %v", n, after, before)
			}
			writes = w.d.Writes()
			if e := w.s.Write(n); e != api.OK || w.d.Writes() != writes {
				t.Errorf("Write(%d) once more wrote again", n)
			}
		}
	}
}

// callAll does calls that have to be OK, of a store whose model doesn't go along.
func (w *world) callAll(l ...op) {
	w.t.Helper()
	for _, o := range l {
		if got := w.call(o); got.err != api.OK {
			w.t.Fatal(o, got)
		}
	}
}

// leave appends to a lane, behind its store's back, until it has just so much room.
func (w *world) leave(room int) {
	w.t.Helper()
	// Records of 11 and of 51 bytes, that no transaction made.
	for over := w.s.lane.Room() - room; over != 0; over = w.s.lane.Room() - room {
		r := check
		if over%11 != 0 {
			r = carry(0, 0, 0, a)
		}
		if over < 0 {
			w.t.Fatalf("no way to leave room for %d bytes", room)
		}
		if _, e := w.s.lane.Append(r); e != api.OK {
			w.t.Fatal(e)
		}
	}
}

// changed: a world with so many changes in all, by three transactions.
func changed(t *testing.T, n int) *world {
	w := newWorld(t)
	w.run(begin(), put(1, "a", "1"), commit(1), begin(), begin(), begin(), save(2))
	for i := range n {
		w.run(op{name: "put", txn: i%3 + 1, row: api.Row{Table: i % 3, Key: "k", Value: strconv.Itoa(i)}})
	}
	return w
}

// The lane is packed ahead of an Update and of a Mark if there is less room than they ask for, and not ahead of anything else.
func TestRoom(t *testing.T) {
	ops := []struct {
		op
		packs bool
		fails api.Errno
	}{
		{op: put(2, "z", "z"), packs: true},
		{op: put(1, "k", "z"), packs: true},
		{op: del(1, "k"), packs: true},
		{op: point(), packs: true},
		{op: op{name: "put", txn: 1, row: api.Row{Table: 1, Key: "k"}}, fails: api.ErrLocked},
		{op: del(2, "z"), fails: api.ErrNone},
		{op: read(1, "k")},
		{op: scan(1, "", "z")},
		{op: back(2, 1)},
		{op: commit(1)},
		{op: abort(2)},
		{op: write(0)},
	}
	for _, n := range []int{3, 4, 12, 21} {
		for _, o := range ops {
			for lacks := range 2 {
				w := changed(t, n)
				w.leave((2+n+3)*395 - lacks)
				generation := w.generation()
				if e := w.do(o.op); e != o.fails {
					t.Fatalf("%v: %v", o.op, e)
				}
				if packed := w.generation() != generation; packed != (o.packs && lacks > 0) {
					t.Errorf("%v, with %d changes and %d bytes less than it takes: packed: %v", o.op, n, lacks, packed)
				}
				w.run(crash(0))
			}
		}
	}
}

// Without changes there has to be room for five; with all that there may be, a Put that is refused doesn't pack.
func TestRoomAtTheLimits(t *testing.T) {
	for lacks := range 2 {
		w := changed(t, 0)
		w.leave(5*395 - lacks)
		w.run(put(1, "z", "z"))
		if packed := w.generation() != 1; packed != (lacks > 0) {
			t.Errorf("put: %d bytes less than it takes: packed: %v", lacks, packed)
		}
	}
	w := changed(t, 24)
	w.leave(29*395 - 1)
	for n := 1; n <= 3; n++ {
		if e := w.do(put(n, "z", "z")); e != api.ErrFull && e != api.ErrLocked || w.generation() != 1 {
			t.Errorf("put: %v, generation %d", e, w.generation())
		}
	}
	w.run(point())
	if w.generation() != 2 {
		t.Error("point didn't pack")
	}
	w.run(abort(1), abort(2), commit(3), crash(0))
}

// A put behind which the lane was packed tells of the page as it is then; a mark, that none is dirty any more.
func TestPackedAhead(t *testing.T) {
	w := newWorld(t)
	w.run(begin(), begin(), put(1, "a", "1"))
	w.leave((2+1+3)*395 - 1)
	w.run(put(2, "b", "2"))
	r := update(2, 1, "", b, string(sectors(t, w.d, first, 4)))
	wantLog(t, w.log(), check, carry(1, 0, 0, ""), r)
	w.leave((2+2+3)*395 - 1)
	w.run(point())
	wantLog(t, w.log(), check, carry(1, 0, 0, ""), carry(2, 0, 1, ""), mark())
}

// A row of calls so long that the lane is packed many times, with and without open transactions.
func TestManyCalls(t *testing.T) {
	two := []op{begin(), begin(), put(1, "k", "1"), put(2, "l", "1"), save(2), put(2, "l", "2"), put(1, "m", "1")}
	after := []op{back(2, 1), commit(2)}
	stories := []struct {
		name                 string
		ahead, round, behind []op
	}{
		{"puts", nil, []op{begin(), put(1, "a", "1"), put(1, "a", "2"), commit(1)}, nil},
		{"marks", nil, []op{point()}, nil},
		{"aborted", nil, []op{begin(), put(1, "a", "1"), put(1, "b", "2"), abort(1)}, nil},
		{"written", nil, []op{begin(), put(1, "a", "1"), write(0), del(1, "a"), write(0), commit(1)}, nil},
		{"gone back", nil, []op{begin(), save(1), put(1, "a", "1"), back(1, 1), commit(1)}, nil},
		{"beside two", two, []op{begin(), put(3, "a", "1"), commit(3)}, after},
		{"beside two, aborted", two, []op{begin(), put(3, "a", "1"), write(0), abort(3)}, after},
		{"marks beside two", two, []op{point(), write(0)}, after},
	}
	for _, s := range stories {
		t.Run(s.name, func(t *testing.T) {
			w := newWorld(t)
			w.run(s.ahead...)
			for range 600 {
				w.run(s.round...)
			}
			if w.generation() < 3 {
				t.Errorf("packed %d times", w.generation()-1)
			}
			w.run(s.behind...)
			w.run(crash(0), begin(), put(1, "z", "z"), commit(1), crash(0))
		})
	}
}

// Opening undoes the open transactions by their numbers, each from its last change on, with an End behind it; then it packs.
func TestOpenUndoes(t *testing.T) {
	begun := func() *world {
		w := newWorld(t)
		w.run(begin(), put(1, "a", "1"), put(1, "b", "2"), commit(1), begin(), begin(), begin(), save(1), save(3))
		w.run(put(2, "b", "y"), put(1, "a", "x"), put(2, "c", "z"), put(3, "d", "w"), back(3, 1), point())
		w.d.Crash(0)
		return w
	}
	said := begun().durable()
	c := slot(is("c", "z"))
	// Which pages are clean on the way, and hence are told whole, is left open.
	plain := func(e lane.Entry) lane.Entry { e.Image = ""; return e }
	want := slices.Concat(mapped(said, func(e lane.Entry) api.Record { return plain(e).Record }), []api.Record{
		undo(1, 0, x, a, ""), over(api.End, 1),
		undo(2, 2, c, "", ""), undo(2, 1, y, b, ""), over(api.End, 2),
		over(api.End, 3),
	})
	whole := false
	for n := 0; ; n++ {
		w := begun()
		w.d.Arm(0, n)
		s, e := Open(w.d, 0)
		if e == api.OK {
			break
		}
		if s != nil || e != api.ErrDown {
			t.Fatalf("Open: %v, %v", s, e)
		}
		w.d.Crash(math.MaxUint64)
		got := w.durable()
		if got[len(got)-1].Place < 2<<20 { // ahead of the pack
			wantLog(t, mapped(got, plain), want[:len(got)]...)
			whole = whole || len(got) == len(want)
		} else {
			wantLog(t, got, check)
		}
	}
	if !whole {
		t.Error("opening never told of all that it undid")
	}
}

// Each call that writes answers the disk's error, with nothing beside it.
func TestDown(t *testing.T) {
	for _, o := range []op{commit(1), point(), pack(), write(0)} {
		w := newWorld(t)
		w.run(begin(), put(1, "a", "1"))
		w.d.Arm(0, 0)
		if e := w.do(o); e != api.ErrDown {
			t.Errorf("%v: %v", o, e)
		}
	}
	// A full store, whose three pages at hand are changed: each call of another page has to write one.
	for _, o := range []op{put(2, "bd", "x"), del(2, "bd"), back(1, 1), abort(1), put(2, "z", "x")} {
		w := newWorld(t)
		for _, s := range full() {
			w.call(s.op)
		}
		w.callAll(begin(), begin(), save(1), put(1, "bc", "x"), put(2, "aa", "x"), put(2, "af", "x"), put(2, "ak", "x"))
		w.d.Arm(0, 0)
		if got := w.call(o); !same(got, answer{err: api.ErrDown}) {
			t.Errorf("%v: %v", o, got)
		}
	}
	for n := 0; ; n++ {
		d := disk.New(1, api.Region)
		d.Arm(0, n)
		s, e := New(d, 0)
		if e == api.OK {
			break
		}
		if s != nil || e != api.ErrDown {
			t.Errorf("New: %v, %v", s, e)
		}
	}
}
