package roll

import (
	"bytes"
	"math"
	"slices"
	"testing"

	"tenement/api"
	"tenement/disk"
)

// Where things are and how many there are, counted by hand.
const (
	sectorSize = 64
	regionSize = 538
)

var (
	counts   = []uint64{0, 1, 2, 255, 256, 258, 65535, 65536, 0x01020304, 1<<31 - 1, 1 << 31, 1<<32 - 2, 1<<32 - 1}
	states   = []int{Absent, Live, Going}
	noStates = []int{3, 4, 7, 127, 128, 254, 255}
	masks    = []uint64{0, math.MaxUint64, 1, 2, 5, 0xaaaaaaaaaaaaaaaa, 0x5555555555555555, 1 << 63}
)

// lineByHand: the sector of a line, as the document tells it.
func lineByHand(first byte, count uint64) []byte {
	b := make([]byte, sectorSize)
	copy(b, []byte{first, byte(count >> 24), byte(count >> 16), byte(count >> 8), byte(count)})
	return b
}

// put makes a sector last, whatever it had.
func put(t *testing.T, d *disk.Disk, r, s int, b ...byte) {
	t.Helper()
	if d.Write(r, s, b) != api.OK || d.Barrier(r) != api.OK {
		t.Fatalf("sector %d of region %d can't be written", s, r)
	}
}

// fill makes full sectors, no two alike, of those from one on up to another one.
func fill(t *testing.T, d *disk.Disk, r, from, to int) {
	t.Helper()
	for s := from; s < to; s++ {
		b := bytes.Repeat([]byte{byte(r + 1)}, sectorSize)
		b[1], b[2] = byte(s>>8), byte(s)
		if d.Write(r, s, b) != api.OK {
			t.Fatalf("sector %d of region %d can't be written", s, r)
		}
	}
	if d.Barrier(r) != api.OK {
		t.Fatalf("region %d can't be made durable", r)
	}
}

// image: all sectors of a region.
func image(d *disk.Disk, r int) [][]byte {
	var all [][]byte
	for s := 0; ; s++ {
		b, err := d.Read(r, s)
		if err != api.OK {
			return all
		}
		all = append(all, b)
	}
}

// wiped: a region as Wipe leaves it.
func wiped(all [][]byte) [][]byte {
	all = slices.Clone(all)
	for s := 1; s < regionSize; s++ {
		all[s] = make([]byte, sectorSize)
	}
	return all
}

func wantImage(t *testing.T, what string, d *disk.Disk, r int, want [][]byte) {
	t.Helper()
	got := image(d, r)
	if len(got) != len(want) {
		t.Fatalf("%s: region %d has %d sectors, want %d", what, r, len(got), len(want))
	}
	for s := range want {
		if !bytes.Equal(got[s], want[s]) {
			t.Fatalf("%s: sector %d of region %d is %v, want %v", what, s, r, got[s], want[s])
		}
	}
}

func wantLine(t *testing.T, d *disk.Disk, r, state int, count uint64) {
	t.Helper()
	if l, err := Read(d, r); err != api.OK || l.State != state || l.Count != count {
		t.Fatalf("Read of region %d: %v, %v; want %d, %d", r, l, err, state, count)
	}
}

func mustWrite(t *testing.T, d *disk.Disk, r, state int, count uint64) {
	t.Helper()
	if err := Write(d, r, Line{State: state, Count: count}); err != api.OK {
		t.Fatalf("Write of %d, %d: %v", state, count, err)
	}
}

func mustSettle(t *testing.T, d *disk.Disk, r, state int, count uint64) {
	t.Helper()
	if l, err := Settle(d, r); err != api.OK || l.State != state || l.Count != count {
		t.Fatalf("Settle of region %d: %v, %v; want %d, %d", r, l, err, state, count)
	}
}

// wantDurable: no crash changes a region any more.
func wantDurable(t *testing.T, what string, d *disk.Disk, r int) {
	t.Helper()
	if n := d.Waits(r); n > 0 {
		t.Fatalf("%s: %d writes of region %d wait", what, n, r)
	}
	before := image(d, r)
	d.Crash(0)
	wantImage(t, what, d, r, before)
}

func TestNumbersOfStates(t *testing.T) {
	if Absent != 0 || Live != 1 || Going != 2 {
		t.Error(Absent, Live, Going)
	}
}

func TestReadOfARegionNeverWritten(t *testing.T) {
	d := disk.New(api.Tenants, api.Region)
	for r := range api.Tenants {
		wantLine(t, d, r, Absent, 0)
	}
	if d.Writes() != 0 {
		t.Error("Read has written")
	}
}

func TestWriteThenRead(t *testing.T) {
	d := disk.New(3, api.Region)
	fill(t, d, 0, 0, regionSize)
	fill(t, d, 1, 0, regionSize)
	first, second, third := image(d, 0), image(d, 1), image(d, 2)
	for _, state := range states {
		for _, count := range counts {
			// What stood in the sector ahead of it doesn't show.
			put(t, d, 1, 0, bytes.Repeat([]byte{0xee}, sectorSize)...)
			mustWrite(t, d, 1, state, count)
			wantLine(t, d, 1, state, count)
			second[0] = lineByHand(byte(state), count)
			wantImage(t, "Write", d, 1, second)
		}
	}
	wantImage(t, "Write of the region behind", d, 0, first)
	wantImage(t, "Write of the region ahead", d, 2, third)
}

// Lines are read from the bytes that the document names, and from these alone.
func TestReadOfBytes(t *testing.T) {
	d := disk.New(2, 3)
	for first := range 256 {
		state := Absent
		if first == 1 || first == 2 {
			state = first
		}
		for _, count := range counts {
			b := lineByHand(byte(first), count)
			for i := 5; i < sectorSize; i++ {
				b[i] = byte(i)
			}
			put(t, d, 1, 0, b...)
			wantLine(t, d, 1, state, count)
			wantLine(t, d, 0, Absent, 0)
		}
	}
}

// Read tells what was written last, whether it lasts or not, also of a region that is down.
func TestReadOfALineThatWaits(t *testing.T) {
	d := disk.New(1, 1)
	mustWrite(t, d, 0, Live, 3)
	if err := d.Write(0, 0, lineByHand(2, 4)); err != api.OK {
		t.Fatal(err)
	}
	d.Arm(0, 0)
	wantLine(t, d, 0, Going, 4)
	if d.Waits(0) != 1 {
		t.Error("Read made a line last")
	}
	d.Crash(0)
	wantLine(t, d, 0, Live, 3)
}

func TestWriteIsDurable(t *testing.T) {
	for _, mask := range masks {
		d := disk.New(1, api.Region)
		for _, state := range []int{Live, Going, Absent, Going, Live, Absent} {
			for _, count := range counts {
				mustWrite(t, d, 0, state, count)
				if d.Waits(0) != 0 {
					t.Fatal("the line waits")
				}
				d.Crash(mask)
				wantLine(t, d, 0, state, count)
			}
		}
	}
}

// A state that is none is Absent, also one whose lowest byte would be one.
func TestWriteOfNoState(t *testing.T) {
	d := disk.New(1, 1)
	for _, state := range append(noStates, 256, 257, 258, 513, -1, -2, -254, -255, 1<<32+1, math.MaxInt, math.MinInt, math.MinInt+1) {
		mustWrite(t, d, 0, Live, 1)
		mustWrite(t, d, 0, state, 9)
		wantLine(t, d, 0, Absent, 9)
	}
}

func TestWipe(t *testing.T) {
	for _, mask := range masks {
		// Sectors that don't belong to the tenant, behind its region, are left alone.
		d := disk.New(3, api.Region+3)
		for r := range 3 {
			fill(t, d, r, 0, regionSize+3)
		}
		first, second, third := image(d, 0), image(d, 1), image(d, 2)
		if err := Wipe(d, 1); err != api.OK || d.Waits(1) != 0 {
			t.Fatalf("Wipe: %v, %d writes wait", err, d.Waits(1))
		}
		for range 2 {
			wantImage(t, "Wipe", d, 0, first)
			wantImage(t, "Wipe", d, 1, wiped(second))
			wantImage(t, "Wipe", d, 2, third)
			d.Crash(mask)
		}
	}
}

func TestWipeOfSingleSectors(t *testing.T) {
	for _, s := range []int{0, 1, 2, 257, 258, 513, 514, 536, 537, 538} {
		d := disk.New(1, api.Region+1)
		fill(t, d, 0, s, s+1)
		before := image(d, 0)
		if err := Wipe(d, 0); err != api.OK {
			t.Fatal(err)
		}
		wantImage(t, "Wipe", d, 0, wiped(before))
		wantDurable(t, "Wipe", d, 0)
	}
}

// The line is none of Wipe's business, whatever it says.
func TestWipeLeavesTheLine(t *testing.T) {
	d := disk.New(1, api.Region)
	for first := range 256 {
		b := bytes.Repeat([]byte{byte(first)}, sectorSize)
		put(t, d, 0, 0, b...)
		put(t, d, 0, 9, 1)
		if err := Wipe(d, 0); err != api.OK {
			t.Fatal(err)
		}
		if got := image(d, 0); !bytes.Equal(got[0], b) || got[9][0] != 0 {
			t.Fatalf("the line is %v, want %v", got[0], b)
		}
	}
}

// What waited ahead of it lasts as zeros.
func TestWipeOfSectorsThatWait(t *testing.T) {
	d := disk.New(1, api.Region)
	put(t, d, 0, 5, 1)
	d.Write(0, 5, nil)
	d.Write(0, 6, []byte{1})
	if err := Wipe(d, 0); err != api.OK {
		t.Fatal(err)
	}
	d.Crash(0)
	wantImage(t, "Wipe", d, 0, image(disk.New(1, api.Region), 0))
}

func TestSettleOfALiveTenant(t *testing.T) {
	for _, count := range counts {
		d := disk.New(2, api.Region)
		fill(t, d, 0, 1, regionSize)
		mustWrite(t, d, 0, Live, count)
		before, writes := image(d, 0), d.Writes()
		mustSettle(t, d, 0, Live, count)
		wantImage(t, "Settle", d, 0, before)
		if d.Writes() != writes {
			t.Errorf("Settle of a Live tenant made %d writes", d.Writes()-writes)
		}
		wantDurable(t, "Settle", d, 0)
	}
}

// Nothing of a Live tenant is written, so a region that is down is no error.
func TestSettleOfALiveTenantThatIsDown(t *testing.T) {
	d := disk.New(1, api.Region)
	mustWrite(t, d, 0, Live, 5)
	d.Arm(0, 0)
	mustSettle(t, d, 0, Live, 5)
}

// What is in a region whose line isn't Live is wiped: of a tenant that is going, and of one that was being made.
func TestSettleOfOthers(t *testing.T) {
	for _, state := range []int{Absent, Going} {
		for i, count := range counts {
			d := disk.New(3, api.Region+1)
			for r := range 3 {
				fill(t, d, r, 0, regionSize+1)
			}
			mustWrite(t, d, 1, state, count)
			first, second, third := image(d, 0), image(d, 1), image(d, 2)
			second[0] = lineByHand(0, count)
			mustSettle(t, d, 1, Absent, count)
			if d.Waits(1) != 0 {
				t.Fatalf("%d writes wait", d.Waits(1))
			}
			for range 2 {
				wantLine(t, d, 1, Absent, count)
				wantImage(t, "Settle", d, 0, first)
				wantImage(t, "Settle", d, 1, wiped(second))
				wantImage(t, "Settle", d, 2, third)
				d.Crash(masks[i%len(masks)])
			}
			// It is settled now: nothing is to be done any more.
			writes := d.Writes()
			mustSettle(t, d, 1, Absent, count)
			if d.Writes() != writes {
				t.Fatal("Settle of what is settled has written")
			}
		}
	}
}

func TestSettleOfARegionNeverWritten(t *testing.T) {
	d := disk.New(1, api.Region)
	mustSettle(t, d, 0, Absent, 0)
	if d.Writes() != 0 {
		t.Error("Settle has written zeros over zeros")
	}
}

// A first byte that is no State is an Absent one's: only a Going line is written.
func TestSettleOfNoState(t *testing.T) {
	for _, first := range noStates {
		d := disk.New(1, api.Region)
		fill(t, d, 0, 0, regionSize)
		put(t, d, 0, 0, lineByHand(byte(first), 70000)...)
		before := image(d, 0)
		mustSettle(t, d, 0, Absent, 70000)
		wantImage(t, "Settle", d, 0, wiped(before))
		wantDurable(t, "Settle", d, 0)
	}
}

// wantBad: each call that has to have a sector that isn't there says so, and has changed nothing.
func wantBad(t *testing.T, d *disk.Disk, r int) {
	t.Helper()
	if l, err := Read(d, r); err != api.ErrBad || l != (Line{}) {
		t.Errorf("Read of region %d: %v, %v", r, l, err)
	}
	if err := Write(d, r, Line{State: Live, Count: 1}); err != api.ErrBad {
		t.Errorf("Write of region %d: %v", r, err)
	}
	if err := Wipe(d, r); err != api.ErrBad {
		t.Errorf("Wipe of region %d: %v", r, err)
	}
	if _, err := Settle(d, r); err != api.ErrBad {
		t.Errorf("Settle of region %d: %v", r, err)
	}
}

func TestNoSuchRegion(t *testing.T) {
	d := disk.New(2, api.Region)
	fill(t, d, 0, 0, regionSize)
	fill(t, d, 1, 0, regionSize)
	first, second, writes := image(d, 0), image(d, 1), d.Writes()
	for _, r := range []int{-1, 2, 3, 64, math.MinInt, math.MaxInt} {
		wantBad(t, d, r)
	}
	wantImage(t, "none", d, 0, first)
	wantImage(t, "none", d, 1, second)
	if d.Writes() != writes {
		t.Error("something was written")
	}
	wantBad(t, nil, 0)
	wantBad(t, nil, -1)
}

// A region that is too small for a tenant has a line, but not all that is to be wiped.
func TestSmallRegion(t *testing.T) {
	for _, size := range []int{1, 2, regionSize - 1} {
		d := disk.New(1, size)
		fill(t, d, 0, 0, size)
		for _, state := range states {
			mustWrite(t, d, 0, state, 8)
			wantLine(t, d, 0, state, 8)
			before := image(d, 0)
			if err := Wipe(d, 0); err != api.ErrBad {
				t.Errorf("Wipe of %d sectors: %v", size, err)
			}
			if state == Live {
				mustSettle(t, d, 0, Live, 8)
			} else if _, err := Settle(d, 0); err != api.ErrBad {
				t.Errorf("Settle of %d sectors: %v", size, err)
			}
			wantImage(t, "too small", d, 0, before)
		}
	}
}
