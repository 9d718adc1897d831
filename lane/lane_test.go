package lane

import (
	"bytes"
	"math"
	"slices"
	"strings"
	"testing"

	"tenement/api"
	"tenement/disk"
	"tenement/record"
)

// Sizes, counted by hand.
const (
	load, bankSectors, size     = 56, 256, 14336
	head, bank0, bank1, behind  = 1, 2, 258, 514
	small, slotted, most, check = 11, 51, 395, 11
)

// commit is a record with a frame of 11 bytes.
func commit(txn int) api.Record { return api.Record{Kind: api.Commit, Txn: txn} }

// update is a record with a frame of 51 bytes.
func update(first byte) api.Record {
	return api.Record{Kind: api.Update, Txn: int(first), Page: 2, Slot: 3, After: counted(first, 40)}
}

// greatest is a record with a frame of 395 bytes.
func greatest(first byte) api.Record {
	return api.Record{Kind: api.Mark, Txn: int(first), Page: 5, Slot: 4, Before: counted(first, 40), After: counted(first+1, 40),
		Image: counted(first+2, 256), Dirty: []uint64{0, 1, 1<<20 + 1, 1 << 63, math.MaxUint64, uint64(first)}}
}

func counted(first byte, n int) string {
	b := make([]byte, n)
	for i := range b {
		b[i] = first + byte(i)
	}
	return string(b)
}

// commits are records from one number on up to another one.
func commits(from, to int) []api.Record {
	var all []api.Record
	for i := from; i < to; i++ {
		all = append(all, commit(i%256))
	}
	return all
}

// begun is what a lane has that is new, and then these.
func begun(records ...api.Record) []api.Record {
	return append([]api.Record{{Kind: api.Check}}, records...)
}

// sized are records whose frames have just so many bytes together (that number must be 0, or great enough).
func sized(t *testing.T, n int) []api.Record {
	t.Helper()
	var all []api.Record
	for n > 3*most {
		all = append(all, greatest(byte(n)))
		n -= most
	}
	for n%small > 0 && n > 0 {
		all = append(all, update(byte(n)))
		n -= slotted
	}
	if n < 0 {
		t.Fatal("no records have so many bytes")
	}
	return append(all, commits(0, n/small)...)
}

func region(t *testing.T) *disk.Disk {
	t.Helper()
	return disk.New(1, api.Region)
}

func newLane(t *testing.T) (*disk.Disk, *Lane) {
	t.Helper()
	d := region(t)
	l, e := New(d, 0)
	if e != api.OK || l == nil {
		t.Fatalf("New: %v", e)
	}
	return d, l
}

func mustAppend(t *testing.T, l *Lane, records ...api.Record) {
	t.Helper()
	for _, r := range records {
		if p, e := l.Append(r); e != api.OK || p == 0 {
			t.Fatalf("Append(%v): %v, %v", r, p, e)
		}
	}
}

func mustFlush(t *testing.T, l *Lane) {
	t.Helper()
	if e := l.Flush(); e != api.OK {
		t.Fatalf("Flush: %v", e)
	}
}

func mustAnew(t *testing.T, l *Lane, records ...api.Record) {
	t.Helper()
	if e := l.Anew(records...); e != api.OK {
		t.Fatalf("Anew: %v", e)
	}
	wantLen(t, l, bytesOf(records...))
}

func bytesOf(records ...api.Record) int {
	n := 0
	for _, r := range records {
		n += len(record.Encode(r))
	}
	return n
}

func wantLen(t *testing.T, l *Lane, n int) {
	t.Helper()
	if l.Len() != n || l.Room() != size-n {
		t.Fatalf("Len %d, Room %d; want %d, %d", l.Len(), l.Room(), n, size-n)
	}
}

// wantEntries holds entries against records of a generation, and their places, counted by hand.
func wantEntries(t *testing.T, got []Entry, generation uint64, records ...api.Record) {
	t.Helper()
	if len(got) != len(records) {
		t.Fatalf("%d records, want %d", len(got), len(records))
	}
	ahead := 0
	for i, r := range records {
		if !record.Same(got[i].Record, r) {
			t.Fatalf("record %d is %v, want %v", i, got[i].Record, r)
		}
		if want := generation<<20 + uint64(ahead) + 1; got[i].Place != want {
			t.Fatalf("the place of record %d is %d, want %d", i, got[i].Place, want)
		}
		ahead += bytesOf(r)
	}
}

// wantOpen opens a lane, and holds it against records.
func wantOpen(t *testing.T, d *disk.Disk, generation uint64, records ...api.Record) *Lane {
	t.Helper()
	l, all, e := Open(d, 0)
	if e != api.OK || l == nil {
		t.Fatalf("Open: %v", e)
	}
	wantEntries(t, all, generation, records...)
	wantLen(t, l, bytesOf(records...))
	return l
}

func wantNone(t *testing.T, d *disk.Disk, r int, want api.Errno) {
	t.Helper()
	if l, all, e := Open(d, r); e != want || l != nil || len(all) > 0 {
		t.Errorf("Open of region %d: %v, %v, %v; want only %v", r, l, all, e, want)
	}
}

func read(t *testing.T, d *disk.Disk, s int) []byte {
	t.Helper()
	b, e := d.Read(0, s)
	if e != api.OK {
		t.Fatalf("Read(%d): %v", s, e)
	}
	return b
}

func write(t *testing.T, d *disk.Disk, s int, b ...byte) {
	t.Helper()
	if e := d.Write(0, s, b); e != api.OK {
		t.Fatalf("Write(%d): %v", s, e)
	}
	if e := d.Barrier(0); e != api.OK {
		t.Fatalf("Barrier: %v", e)
	}
}

// sectors is a whole region, as it was written last.
func sectors(t *testing.T, d *disk.Disk) [][]byte {
	t.Helper()
	var all [][]byte
	for s := range api.Region {
		all = append(all, read(t, d, s))
	}
	return all
}

// sector lays one of a bank by hand.
func sector(generation byte, b ...byte) []byte {
	s := append([]byte{0, 0, 0, generation, byte(len(b)), 0, 0, 0}, b...)
	return append(s, make([]byte, 64-len(s))...)
}

// streamOf is the frames of records, one behind the other.
func streamOf(records ...api.Record) []byte {
	var b []byte
	for _, r := range records {
		b = append(b, record.Encode(r)...)
	}
	return b
}

// wantBank holds a region's head and the sectors of its bank against a stream, laid by hand.
func wantBank(t *testing.T, d *disk.Disk, generation, bank byte, stream []byte) {
	t.Helper()
	want := append([]byte{0, 0, 0, generation, bank}, make([]byte, 59)...)
	if got := read(t, d, head); !bytes.Equal(got, want) {
		t.Fatalf("the head is %v, want %v", got, want)
	}
	for i := range bankSectors {
		got := read(t, d, []int{bank0, bank1}[bank]+i)
		from, to := min(i*load, len(stream)), min((i+1)*load, len(stream))
		if from < to && !bytes.Equal(got, sector(generation, stream[from:to]...)) {
			t.Fatalf("sector %d of the bank is %v, want %v", i, got, sector(generation, stream[from:to]...))
		}
		if from == to && got[3] == generation && got[4] > 0 {
			t.Fatalf("sector %d of the bank, behind its bytes, is %v", i, got)
		}
	}
}

func TestSize(t *testing.T) {
	if Size != 14336 {
		t.Error(Size)
	}
}

func TestNewIsACheckAlone(t *testing.T) {
	d := disk.New(3, api.Region)
	if e := d.Write(1, 0, []byte{7, 8, 9}); e != api.OK {
		t.Fatal(e)
	}
	l, e := New(d, 1)
	if e != api.OK {
		t.Fatal(e)
	}
	wantLen(t, l, check)
	if d.Waits(1) != 0 {
		t.Error("a new lane isn't durable")
	}
	d.Crash(0)
	for r := range 3 {
		for s := range api.Region {
			want := make([]byte, 64)
			switch {
			case r == 1 && s == 0:
				copy(want, []byte{7, 8, 9})
			case r == 1 && s == head:
				copy(want, []byte{0, 0, 0, 1, 0})
			case r == 1 && s == bank0:
				copy(want, []byte{0, 0, 0, 1, 11, 0, 0, 0, 0, 9, 1})
			}
			if got, _ := d.Read(r, s); !bytes.Equal(got, want) {
				t.Errorf("sector %d of region %d is %v, want %v", s, r, got, want)
			}
		}
	}
	m, all, e := Open(d, 1)
	if e != api.OK || m.Len() != check {
		t.Fatal(e)
	}
	wantEntries(t, all, 1, begun()...)
}

func TestNewErrors(t *testing.T) {
	for _, c := range []struct {
		d    *disk.Disk
		r    int
		down bool
		want api.Errno
	}{
		{nil, 0, false, api.ErrBad},
		{disk.New(1, api.Region), 1, false, api.ErrBad},
		{disk.New(1, api.Region), -1, false, api.ErrBad},
		{disk.New(1, api.Region), math.MaxInt, false, api.ErrBad},
		{disk.New(1, api.Region), math.MinInt, false, api.ErrBad},
		{disk.New(1, 1), 0, false, api.ErrBad},
		{disk.New(1, 2), 0, false, api.ErrBad},
		{disk.New(1, api.Region), 0, true, api.ErrDown},
	} {
		if c.down {
			c.d.Arm(c.r, 0)
		}
		if l, e := New(c.d, c.r); e != c.want || l != nil {
			t.Errorf("New in region %d: %v, %v; want %v", c.r, l, e, c.want)
		}
		if c.d.Writes() > 0 {
			t.Error("something was written")
		}
	}
}

// A disk that fails at each operation of New: there is no lane, or there is one with its Check, whatever is kept.
func TestNewIsWholeOrNot(t *testing.T) {
	failures := 0
	for n := 0; ; n++ {
		d := region(t)
		d.Arm(0, n)
		l, e := New(d, 0)
		if e == api.OK {
			break
		}
		failures++
		if e != api.ErrDown || l != nil {
			t.Fatalf("New: %v, %v", l, e)
		}
		waits := d.Waits(0)
		for mask := range uint64(1) << waits {
			d := region(t)
			d.Arm(0, n)
			New(d, 0)
			d.Crash(mask)
			if _, _, e := Open(d, 0); e != api.ErrNone {
				m := wantOpen(t, d, 1, begun()...)
				mustAppend(t, m, commit(3))
				mustFlush(t, m)
				d.Crash(0)
				wantOpen(t, d, 1, begun(commit(3))...)
			} else if e := Wipe(d, 0, 1, api.Region); e != api.OK {
				t.Fatal(e)
			} else if _, e := New(d, 0); e != api.OK {
				t.Fatal(e)
			} else {
				wantOpen(t, d, 1, begun()...)
			}
		}
	}
	if failures < 3 {
		t.Errorf("only %d failures: a sector, a head and a barrier can fail", failures)
	}
}

func TestAppendPlaces(t *testing.T) {
	d, l := newLane(t)
	before, writes := sectors(t, d), d.Writes()
	ahead := check
	for i, r := range []api.Record{commit(0), update(1), greatest(2), commit(255), {Kind: api.End, Page: 5, Slot: 4}, greatest(3)} {
		p, e := l.Append(r)
		if want := uint64(1<<20 + ahead + 1); e != api.OK || p != want {
			t.Errorf("Append %d: place %d, %v; want %d", i, p, e, want)
		}
		ahead += bytesOf(r)
		wantLen(t, l, ahead)
	}
	if d.Writes() != writes || d.Waits(0) != 0 || !slices.EqualFunc(before, sectors(t, d), bytes.Equal) {
		t.Error("Append has written")
	}
	d.Crash(math.MaxUint64)
	wantOpen(t, d, 1, begun()...)
}

// TestAppendNotFlushed is the chapter's example.
func TestAppendNotFlushed(t *testing.T) {
	d, l := newLane(t)
	mustAppend(t, l, commit(1))
	d.Crash(0)
	wantOpen(t, d, 1, begun()...)
}

// wrongs are records that may not be, each by one thing.
func wrongs() []api.Record {
	text := func(n int) string { return strings.Repeat("x", n) }
	return []api.Record{
		{}, {Kind: 8}, {Kind: -1}, {Kind: math.MaxInt}, {Kind: 256 + 1},
		{Kind: 5, Txn: -1}, {Kind: 5, Txn: 256}, {Kind: 5, Page: 6}, {Kind: 5, Page: -1}, {Kind: 5, Slot: 5}, {Kind: 5, Slot: -1},
		{Kind: 3, Before: text(39)}, {Kind: 3, Before: text(41)}, {Kind: 3, After: text(1)}, {Kind: 3, After: text(296)},
		{Kind: 3, Image: text(255)}, {Kind: 3, Image: text(257)}, {Kind: 3, Image: text(Size)},
		{Kind: 3, Dirty: make([]uint64, 6)}, {Kind: 7, Dirty: make([]uint64, 5)}, {Kind: 7, Dirty: make([]uint64, 7)},
	}
}

func TestAppendOfWhatIsNone(t *testing.T) {
	d, l := newLane(t)
	mustAppend(t, l, commit(1))
	for _, r := range wrongs() {
		if p, e := l.Append(r); p != 0 || e != api.ErrBad {
			t.Errorf("Append(%v): %d, %v", r, p, e)
		}
		wantLen(t, l, check+small)
	}
	mustFlush(t, l)
	d.Crash(0)
	wantOpen(t, d, 1, begun(commit(1))...)
}

func TestAppendWithoutRoom(t *testing.T) {
	for _, left := range []int{0, 1, small - 1, small, slotted - 1, slotted, slotted + 1, most - 1} {
		d, l := newLane(t)
		records := begun(sized(t, size-check-left)...)
		mustAppend(t, l, records[1:]...)
		wantLen(t, l, size-left)
		for _, r := range []api.Record{commit(9), update(9), greatest(9)} {
			if bytesOf(r) <= left {
				continue
			}
			if p, e := l.Append(r); p != 0 || e != api.ErrQuota {
				t.Errorf("Append of %d bytes with room for %d: %d, %v", bytesOf(r), left, p, e)
			}
			if p, e := l.Append(api.Record{Kind: 9}); p != 0 || e != api.ErrBad {
				t.Errorf("Append of no record with room for %d: %d, %v", left, p, e)
			}
			wantLen(t, l, size-left)
		}
		for _, r := range []api.Record{update(8), commit(8)} {
			if bytesOf(r) == left {
				if p, e := l.Append(r); p != uint64(1<<20+size-left+1) || e != api.OK {
					t.Errorf("Append of a record that just fits: %d, %v", p, e)
				}
				wantLen(t, l, size)
				records = append(records, r)
			}
		}
		mustFlush(t, l)
		d.Crash(0)
		wantOpen(t, d, 1, records...)
	}
}

// A bank whose sectors are all full: its last byte is read, and none behind it.
func TestFullBanks(t *testing.T) {
	d, l := newLane(t)
	for s := behind; s < api.Region; s++ {
		write(t, d, s, sector(2, streamOf(commit(1))...)...)
	}
	first := begun(sized(t, size-check)...)
	mustAppend(t, l, first[1:]...)
	mustFlush(t, l)
	wantBank(t, d, 1, 0, streamOf(first...))
	d.Crash(0)
	l = wantOpen(t, d, 1, first...)
	second := append(sized(t, size-small), commit(77))
	mustAnew(t, l, second...)
	wantBank(t, d, 2, 1, streamOf(second...))
	d.Crash(0)
	l = wantOpen(t, d, 2, second...)
	third := append(sized(t, size-small), commit(78))
	mustAnew(t, l, third...)
	wantBank(t, d, 3, 0, streamOf(third...))
	d.Crash(0)
	l = wantOpen(t, d, 3, third...)
	if p, e := l.Append(commit(1)); p != 0 || e != api.ErrQuota {
		t.Errorf("Append to a full bank: %d, %v", p, e)
	}
	writes := d.Writes()
	mustFlush(t, l)
	if d.Writes() != writes {
		t.Error("something was flushed")
	}
	for s := behind; s < api.Region; s++ {
		if !bytes.Equal(read(t, d, s), sector(2, streamOf(commit(1))...)) {
			t.Fatalf("sector %d, behind the banks, was changed", s)
		}
	}
}

// changed tells which sectors differ, and from which ones.
func changed(before, after [][]byte) []int {
	var all []int
	for s := range before {
		if !bytes.Equal(before[s], after[s]) {
			all = append(all, s)
		}
	}
	return all
}

// Each sector with a byte that isn't durable is written once, in order, and no other one.
func TestFlushWritesWhatIsNotSure(t *testing.T) {
	for durable := check; durable <= 3*load+3; durable++ {
		if !slices.Contains([]int{11, 44, 55, 66, 110, 121, 165}, durable) {
			continue
		}
		for more := small; more <= 22*small; more += small {
			first, last := durable/load, (durable+more-1)/load
			want := last - first + 1
			for n := 0; n <= want; n++ {
				d, l := newLane(t)
				mustAppend(t, l, commits(0, (durable-check)/small)...)
				mustFlush(t, l)
				mustAppend(t, l, commits(100, 100+more/small)...)
				before, writes := sectors(t, d), d.Writes()
				d.Arm(0, n)
				if e := l.Flush(); e != api.ErrDown {
					t.Fatalf("Flush with %d writes of %d: %v", n, want, e)
				}
				wantLen(t, l, durable+more)
				var those []int
				for i := range n {
					those = append(those, bank0+first+i)
				}
				if got := changed(before, sectors(t, d)); !slices.Equal(got, those) {
					t.Fatalf("from %d bytes on %d more: %d writes changed the sectors %v, want %v", durable, more, n, got, those)
				}
				if d.Writes() != writes+n {
					t.Fatalf("%d writes, want %d", d.Writes()-writes, n)
				}
				if n == want {
					d.Arm(0, 1000)
					writes = d.Writes()
					mustFlush(t, l)
					if d.Writes() != writes+want || d.Waits(0) != 0 {
						t.Fatalf("%d writes, want %d", d.Writes()-writes, want)
					}
					d.Crash(0)
					wantOpen(t, d, 1, begun(append(commits(0, (durable-check)/small), commits(100, 100+more/small)...)...)...)
				}
			}
		}
	}
}

func TestFlushOfNothing(t *testing.T) {
	d, l := newLane(t)
	wantIdle := func() {
		t.Helper()
		writes := d.Writes()
		// A write of somebody else: that it still waits tells that there was no barrier.
		if e := d.Write(0, 0, []byte{1}); e != api.OK {
			t.Fatal(e)
		}
		mustFlush(t, l)
		if d.Writes() != writes+1 || d.Waits(0) != 1 {
			t.Errorf("Flush with nothing to flush: %d writes, %d wait", d.Writes()-writes-1, d.Waits(0))
		}
		d.Arm(0, 0)
		mustFlush(t, l)
		d.Crash(0)
	}
	wantIdle()
	mustAppend(t, l, commits(0, 5)...)
	mustFlush(t, l)
	wantIdle()
	mustAppend(t, l, sized(t, 40*load-l.Len())...)
	mustFlush(t, l)
	wantIdle()
	mustAnew(t, l, begun(update(1))...)
	wantIdle()
	mustAnew(t, l)
	wantIdle()
	l = wantOpen(t, d, 3)
	wantIdle()
	mustAppend(t, l, update(1), update(2))
	mustFlush(t, l)
	l = wantOpen(t, d, 3, update(1), update(2))
	wantIdle()
}

// A flush makes all writes of its region durable, as the barrier does.
func TestFlushIsABarrier(t *testing.T) {
	d, l := newLane(t)
	mustAppend(t, l, commit(1))
	if e := d.Write(0, 0, []byte{9}); e != api.OK {
		t.Fatal(e)
	}
	mustFlush(t, l)
	if d.Waits(0) != 0 {
		t.Error("writes wait")
	}
	d.Crash(0)
	if read(t, d, 0)[0] != 9 {
		t.Error("there was no barrier")
	}
}

// Streams of every length around the borders of sectors, so that they end with a sector of any number of bytes.
func TestStreamsThatEndAnywhere(t *testing.T) {
	ends := map[int]bool{}
	for a := range 4 {
		for b := range 12 {
			d, l := newLane(t)
			records := begun()
			for i := range a {
				records = append(records, update(byte(10*i)))
			}
			records = append(records, commits(50, 50+b)...)
			mustAppend(t, l, records[1:]...)
			mustFlush(t, l)
			d.Crash(0)
			wantBank(t, d, 1, 0, streamOf(records...))
			l = wantOpen(t, d, 1, records...)
			ends[l.Len()%load] = true
			mustAppend(t, l, greatest(9))
			mustFlush(t, l)
			wantBank(t, d, 1, 0, streamOf(append(records, greatest(9))...))
			d.Crash(0)
			wantOpen(t, d, 1, append(records, greatest(9))...)
		}
	}
	if !ends[0] || !ends[1] || !ends[55] {
		t.Error("no stream ended at the border of a sector")
	}
}

func TestOpenOfNone(t *testing.T) {
	d := disk.New(2, api.Region)
	wantNone(t, d, 0, api.ErrNone)
	wantNone(t, d, 2, api.ErrBad)
	wantNone(t, d, -1, api.ErrBad)
	wantNone(t, d, math.MinInt, api.ErrBad)
	wantNone(t, d, math.MaxInt, api.ErrBad)
	wantNone(t, nil, 0, api.ErrBad)
	wantNone(t, disk.New(1, 1), 0, api.ErrBad)
	wantNone(t, disk.New(1, 2), 0, api.ErrNone)
	// A head whose generation is 0 tells of no lane, whatever stands there otherwise.
	write(t, d, head, 0, 0, 0, 0, 1, 1, 1)
	write(t, d, bank0, sector(0, streamOf(commit(1))...)...)
	write(t, d, bank1, sector(0, streamOf(commit(1))...)...)
	wantNone(t, d, 0, api.ErrNone)
	d.Arm(0, 0)
	wantNone(t, d, 0, api.ErrNone)
}

func TestOpenOfARegionWithoutItsBanks(t *testing.T) {
	for _, bank := range []byte{0, 1} {
		d := disk.New(1, 100)
		write(t, d, head, 0, 0, 0, 1, bank)
		wantNone(t, d, 0, api.ErrBad)
	}
}

// Heads and sectors that no lane has written: Open ends, and does nothing beside the banks.
func TestOpenOfOddBytes(t *testing.T) {
	for _, bank := range []byte{2, 3, 127, 128, 255} {
		d := region(t)
		write(t, d, head, 0, 0, 0, 1, bank)
		for s := behind; s < api.Region; s++ {
			write(t, d, s, sector(1, streamOf(commit(1))...)...)
		}
		before := sectors(t, d)
		if l, all, e := Open(d, 0); e == api.OK || l != nil || len(all) > 0 {
			t.Errorf("Open of bank %d: %v, %v, %v", bank, l, all, e)
		}
		if got := changed(before, sectors(t, d)); len(got) > 0 {
			t.Errorf("the sectors %v were changed", got)
		}
	}
	for _, n := range []byte{57, 64, 200, 255} {
		d, l := newLane(t)
		mustAppend(t, l, commits(0, 20)...)
		mustFlush(t, l)
		b := read(t, d, bank0+1)
		b[4] = n
		write(t, d, bank0+1, b...)
		if _, all, e := Open(d, 0); e != api.OK || len(all) < 1 {
			t.Errorf("Open with a sector of %d bytes: %v, %v", n, all, e)
		}
	}
}

// The four bytes of a generation all count, and the highest one stands first.
func TestGenerations(t *testing.T) {
	for _, g := range []uint64{1, 255, 256, 1 << 16, 1<<24 + 5, 0x01020304, 0xfffffffe} {
		for bank := range byte(2) {
			d := region(t)
			four := []byte{byte(g >> 24), byte(g >> 16), byte(g >> 8), byte(g)}
			write(t, d, head, append(slices.Clone(four), bank)...)
			first := []int{bank0, bank1}[bank]
			b := sector(0, streamOf(commits(1, 4)...)...)
			copy(b, four)
			write(t, d, first, b...)
			l := wantOpen(t, d, g, commits(1, 4)...)
			if p, e := l.Append(commit(4)); e != api.OK || p != g<<20+33+1 {
				t.Errorf("the place is %d, %v", p, e)
			}
			mustFlush(t, l)
			if got := read(t, d, first); !bytes.Equal(got[:8], append(slices.Clone(four), 44, 0, 0, 0)) {
				t.Errorf("the sector begins with %v", got[:8])
			}
			mustAnew(t, l, commit(7), commit(8))
			if got, want := read(t, d, head)[:5], []byte{byte((g + 1) >> 24), byte((g + 1) >> 16), byte((g + 1) >> 8), byte(g + 1), 1 - bank}; !bytes.Equal(got, want) {
				t.Errorf("the head begins with %v, want %v", got, want)
			}
			wantOpen(t, d, g+1, commit(7), commit(8))
		}
	}
}

// What is stored in sectors of other generations, or behind one that isn't full, is no part of a stream.
func TestOpenReadsItsStreamAlone(t *testing.T) {
	all := commits(0, 40)
	stream := streamOf(all...)
	lay := func(generations ...byte) *disk.Disk {
		d := region(t)
		write(t, d, head, 0, 0, 0, 5, 1)
		for i, g := range generations {
			write(t, d, bank1+i, sector(g, stream[i*load:(i+1)*load]...)...)
		}
		return d
	}
	for _, c := range []struct {
		generations []byte
		records     int
	}{
		{[]byte{5, 5, 5}, 15}, {[]byte{5, 5, 4, 5}, 10}, {[]byte{5, 6, 5}, 5}, {[]byte{5}, 5}, {[]byte{4, 5, 5}, 0}, {[]byte{0, 5, 5}, 0}, {nil, 0},
	} {
		d := lay(c.generations...)
		l := wantOpen(t, d, 5, all[:c.records]...)
		// The rest is appended once more, bit by bit: nothing else ever shows.
		for i := c.records; i < len(all); i++ {
			mustAppend(t, l, commit(200+i))
			mustFlush(t, l)
			d.Crash(0)
			var want []api.Record
			want = append(want, all[:c.records]...)
			want = append(want, commits(200+c.records, 200+i+1)...)
			l = wantOpen(t, d, 5, want...)
		}
	}
}

// A sector that was left over anywhere behind the records is taken away, up to the bank's last one, and none behind that.
func TestOpenTakesAwayWhatIsLeftOver(t *testing.T) {
	for _, bank := range []byte{0, 1} {
		first := []int{bank0, bank1}[bank]
		for _, left := range []int{1, 2, 3, 100, 254, 255} {
			d := region(t)
			write(t, d, head, 0, 0, 0, 2, bank)
			write(t, d, first, sector(2, streamOf(commit(1))...)...)
			write(t, d, first+left, sector(2, streamOf(commit(2))...)...)
			write(t, d, behind, sector(2, streamOf(commit(3))...)...)
			before := sectors(t, d)
			wantOpen(t, d, 2, commit(1))
			if got := changed(before, sectors(t, d)); !slices.Equal(got, []int{first + left}) {
				t.Errorf("Open with sector %d left over changed the sectors %v", first+left, got)
			}
		}
	}
}

// Open of a lane with nothing behind its records has nothing to write.
func TestOpenOfAWholeLaneWritesNothing(t *testing.T) {
	for _, n := range []int{0, 1, 4, 10, 55} {
		d, l := newLane(t)
		mustAnew(t, l, commits(0, n)...)
		mustAppend(t, l, commits(n, n+3)...)
		mustFlush(t, l)
		writes := d.Writes()
		wantOpen(t, d, 2, commits(0, n+3)...)
		if d.Writes() != writes {
			t.Errorf("Open of %d records made %d writes", n+3, d.Writes()-writes)
		}
	}
}

// The answers of two calls, and what they were given, share nothing that can be written.
func TestNothingIsShared(t *testing.T) {
	d, l := newLane(t)
	mark := greatest(1)
	given := []api.Record{mark, commit(1)}
	mustAppend(t, l, given[0])
	mark.Dirty[0], mark.Dirty[5] = 99, 99
	mustFlush(t, l)
	wantOpen(t, d, 1, begun(greatest(1))...)
	given[0] = greatest(1)
	mustAnew(t, l, given...)
	if !record.Same(given[0], greatest(1)) || !record.Same(given[1], commit(1)) {
		t.Error("what was given was changed")
	}
	given[0].Dirty[0], given[1].Kind = 99, 6
	mustAppend(t, l, commit(2))
	mustFlush(t, l)
	want := []api.Record{greatest(1), commit(1), commit(2)}
	_, one, _ := Open(d, 0)
	_, two, _ := Open(d, 0)
	one[0].Dirty[0], one[1].Place = 99, 0
	wantEntries(t, two, 2, want...)
	wantOpen(t, d, 2, want...)
}

func TestAnew(t *testing.T) {
	d, l := newLane(t)
	mustAppend(t, l, commits(0, 30)...)
	mustFlush(t, l)
	mustAppend(t, l, commit(99)) // which isn't flushed, and is gone
	last := uint64(0)
	for i, records := range [][]api.Record{
		{commit(1)}, {}, {greatest(1), greatest(2), update(3)}, nil, {greatest(7)}, {}, {}, commits(0, 56), sized(t, size), {update(1)}, sized(t, size-small), {},
	} {
		mustAnew(t, l, records...)
		generation := uint64(i + 2)
		if d.Waits(0) != 0 {
			t.Fatal("it isn't durable")
		}
		d.Crash(0)
		wantBank(t, d, byte(generation), byte((i+1)%2), streamOf(records...))
		if i%3 == 0 {
			l = wantOpen(t, d, generation, records...)
		}
		r := commit(5)
		if l.Room() < small {
			continue
		}
		p, e := l.Append(r)
		if e != api.OK || p != generation<<20+uint64(bytesOf(records...))+1 || p <= last {
			t.Fatalf("Append behind Anew: %d, %v", p, e)
		}
		last = p
		mustFlush(t, l)
		d.Crash(0)
		wantOpen(t, d, generation, append(slices.Clone(records), r)...)
	}
}

func TestAnewErrors(t *testing.T) {
	d, l := newLane(t)
	mustAppend(t, l, commit(1))
	mustFlush(t, l)
	before, writes := sectors(t, d), d.Writes()
	try := func(want api.Errno, records ...api.Record) {
		t.Helper()
		if e := l.Anew(records...); e != want {
			t.Errorf("Anew of %d records: %v, want %v", len(records), e, want)
		}
		wantLen(t, l, check+small)
		if d.Writes() != writes || len(changed(before, sectors(t, d))) > 0 {
			t.Error("something was written")
		}
	}
	tooMany := append(sized(t, size-10), commit(1))
	for _, r := range wrongs() {
		try(api.ErrBad, r)
		try(api.ErrBad, commit(1), r, commit(2))
		try(api.ErrBad, commit(1), commit(2), r)
		try(api.ErrBad, append(slices.Clone(tooMany), r)...)
	}
	try(api.ErrQuota, tooMany...)
	try(api.ErrQuota, append(sized(t, size), commit(1))...)
	try(api.ErrQuota, slices.Repeat([]api.Record{greatest(1)}, 1000)...)
	d.Arm(0, 0)
	try(api.ErrBad, wrongs()[1])
	try(api.ErrQuota, tooMany...)
	try(api.ErrDown, commit(2))
	try(api.ErrDown)
	d.Crash(0)
	l = wantOpen(t, d, 1, begun(commit(1))...)
	mustAnew(t, l, tooMany[:len(tooMany)-1]...)
}

func TestWipe(t *testing.T) {
	fill := func() *disk.Disk {
		d := disk.New(3, 20)
		for r := range 3 {
			for s := range 20 {
				b := make([]byte, 64)
				if s%3 > 0 {
					b[(7*s)%64] = byte(s)
				}
				d.Write(r, s, b)
			}
			d.Barrier(r)
		}
		return d
	}
	nonzero := func(from, to int) int {
		n := 0
		for s := max(from, 0); s < to; s++ {
			if s%3 > 0 {
				n++
			}
		}
		return n
	}
	for _, c := range []struct{ from, to int }{{0, 20}, {1, 20}, {5, 9}, {3, 4}, {4, 5}, {0, 0}, {7, 7}, {19, 20}, {20, 20}, {9, 5}, {-1, -1}, {-3, -7}, {100, 90}, {math.MaxInt, math.MinInt}} {
		d := fill()
		writes := d.Writes()
		if e := Wipe(d, 1, c.from, c.to); e != api.OK {
			t.Errorf("Wipe from %d to %d: %v", c.from, c.to, e)
		}
		if got := d.Writes() - writes; got != nonzero(c.from, c.to) {
			t.Errorf("Wipe from %d to %d made %d writes, want %d", c.from, c.to, got, nonzero(c.from, c.to))
		}
		d.Crash(0)
		whole := fill()
		for r := range 3 {
			for s := range 20 {
				want, _ := whole.Read(r, s)
				if r == 1 && s >= c.from && s < c.to {
					want = make([]byte, 64)
				}
				if got, _ := d.Read(r, s); !bytes.Equal(got, want) {
					t.Errorf("Wipe from %d to %d: sector %d of region %d is %v", c.from, c.to, s, r, got)
				}
			}
		}
		writes = d.Writes()
		if e := Wipe(d, 1, c.from, c.to); e != api.OK || d.Writes() != writes {
			t.Errorf("Wipe of zeros: %v, %d writes", e, d.Writes()-writes)
		}
	}
}

func TestWipeSeesEachByte(t *testing.T) {
	for i := range 64 {
		d := disk.New(1, 3)
		b := make([]byte, 64)
		b[i] = 1
		write(t, d, 1, b...)
		if e := Wipe(d, 0, 0, 3); e != api.OK || d.Writes() != 2 || !bytes.Equal(read(t, d, 1), make([]byte, 64)) {
			t.Errorf("a sector whose byte %d is 1: %v, %d writes", i, e, d.Writes())
		}
	}
}

func TestWipeErrors(t *testing.T) {
	for _, c := range []struct{ r, from, to int }{
		{0, 0, 21}, {0, 19, 25}, {0, -1, 5}, {0, 20, 21}, {0, 30, 40}, {0, math.MinInt, math.MaxInt}, {0, 0, math.MaxInt}, {0, math.MinInt, 3}, {0, math.MaxInt - 1, math.MaxInt},
		{1, 0, 3}, {-1, 0, 3}, {1, 0, 0}, {-1, 5, 2}, {math.MaxInt, 0, 0}, {math.MinInt, 0, 1},
	} {
		d := disk.New(1, 20)
		for s := range 20 {
			write(t, d, s, 1)
		}
		if e := Wipe(d, c.r, c.from, c.to); e != api.ErrBad {
			t.Errorf("Wipe(%d, %d, %d): %v", c.r, c.from, c.to, e)
		}
		if d.Writes() != 20 {
			t.Errorf("Wipe(%d, %d, %d) has written", c.r, c.from, c.to)
		}
	}
	if Wipe(nil, 0, 0, 0) != api.ErrBad || Wipe(nil, 0, 0, 1) != api.ErrBad {
		t.Error("Wipe without a disk")
	}
	d := disk.New(1, 20)
	d.Arm(0, 0)
	for _, c := range []struct{ from, to int }{{0, 20}, {3, 3}, {5, 2}} {
		if e := Wipe(d, 0, c.from, c.to); e != api.ErrDown {
			t.Errorf("Wipe of nothing in a region that is down: %v", e)
		}
	}
}

// A disk that fails at each operation of Wipe.
func TestWipeFails(t *testing.T) {
	for n := 0; n <= 6; n++ {
		d := disk.New(1, 10)
		for s := 2; s < 7; s++ {
			write(t, d, s, byte(s))
		}
		d.Arm(0, n)
		want := api.ErrDown
		if n == 6 {
			want = api.OK
		}
		if e := Wipe(d, 0, 1, 9); e != want {
			t.Errorf("Wipe that can write %d sectors: %v, want %v", n, e, want)
		}
		waits := min(n, 5)
		if n == 6 {
			waits = 0
		}
		if d.Waits(0) != waits {
			t.Errorf("Wipe that can write %d sectors: %d wait", n, d.Waits(0))
		}
	}
}

// Zeros that still wait are not written again, but become durable.
func TestWipeOfWaitingZeros(t *testing.T) {
	d := disk.New(1, 5)
	write(t, d, 2, 9)
	if e := d.Write(0, 2, nil); e != api.OK {
		t.Fatal(e)
	}
	if e := Wipe(d, 0, 0, 5); e != api.OK || d.Writes() != 2 {
		t.Errorf("%v, %d writes", e, d.Writes())
	}
	d.Crash(0)
	if read(t, d, 2)[0] != 0 {
		t.Error("the zeros didn't last")
	}
}
