package disk

import (
	"bytes"
	"math"
	"testing"

	"tenement/api"
)

var noPlaces = []int{math.MinInt, -65536, -1}

// full is what a sector holds that was written with these bytes.
func full(b ...byte) []byte {
	return append(bytes.Clone(b), make([]byte, api.Sector-len(b))...)
}

func mustWrite(t *testing.T, d *Disk, r, s int, b ...byte) {
	t.Helper()
	if e := d.Write(r, s, b); e != api.OK {
		t.Fatalf("Write(%d, %d, %v): %v", r, s, b, e)
	}
}

func wantSector(t *testing.T, d *Disk, r, s int, b ...byte) {
	t.Helper()
	if got, e := d.Read(r, s); e != api.OK || !bytes.Equal(got, full(b...)) {
		t.Errorf("Read(%d, %d) is %v, %v; want %v", r, s, got, e, full(b...))
	}
}

// wantCounts holds what a disk tells of a region against what it should tell.
func wantCounts(t *testing.T, d *Disk, r, waits, writes int, down bool) {
	t.Helper()
	if d.Waits(r) != waits || d.Writes() != writes || d.Down(r) != down {
		t.Errorf("region %d: waits %d, writes %d, down %v; want %d, %d, %v", r, d.Waits(r), d.Writes(), d.Down(r), waits, writes, down)
	}
}

func TestNewSizes(t *testing.T) {
	for _, c := range []struct {
		regions, size int
		ok            bool
	}{
		{1, 1, true}, {2, 4, true}, {64, 1, true}, {1, 65536, true}, {64, 65536, true}, {api.Tenants, api.Region, true},
		{0, 1, false}, {1, 0, false}, {-1, 1, false}, {1, -1, false}, {-1, -1, false}, {0, 0, false},
		{65, 1, false}, {1, 65537, false}, {65, 65537, false},
		{math.MinInt, 1, false}, {1, math.MinInt, false}, {math.MaxInt, 1, false}, {1, math.MaxInt, false}, {math.MaxInt, math.MaxInt, false},
	} {
		if d := New(c.regions, c.size); (d != nil) != c.ok {
			t.Errorf("New(%d, %d): a disk %v, want %v", c.regions, c.size, d != nil, c.ok)
		}
	}
}

func TestNewIsZeros(t *testing.T) {
	d := New(3, 5)
	for r := range 3 {
		for s := range 5 {
			wantSector(t, d, r, s)
		}
		wantCounts(t, d, r, 0, 0, false)
	}
}

func TestFirstAndLastOfTheGreatest(t *testing.T) {
	d := New(64, 65536)
	for _, r := range []int{0, 63} {
		for _, s := range []int{0, 65535} {
			mustWrite(t, d, r, s, byte(r), byte(s), 1)
		}
	}
	for _, r := range []int{0, 63} {
		for _, s := range []int{0, 65535} {
			wantSector(t, d, r, s, byte(r), byte(s), 1)
		}
		if e := d.Write(r, 65536, nil); e != api.ErrBad {
			t.Errorf("Write behind the last sector: %v", e)
		}
	}
	if e := d.Write(64, 0, nil); e != api.ErrBad {
		t.Errorf("Write behind the last region: %v", e)
	}
}

func TestWriteOfEveryLength(t *testing.T) {
	d := New(1, 2)
	for n := api.Sector; n >= 0; n-- {
		mustWrite(t, d, 0, 1, bytes.Repeat([]byte{0xee}, api.Sector)...)
		b := bytes.Repeat([]byte{byte(n + 1)}, n)
		mustWrite(t, d, 0, 1, b...)
		wantSector(t, d, 0, 1, b...)
		wantSector(t, d, 0, 0)
	}
	mustWrite(t, d, 0, 0, 5)
	if e := d.Write(0, 0, nil); e != api.OK {
		t.Error(e)
	}
	wantSector(t, d, 0, 0)
}

func TestTooLong(t *testing.T) {
	d := New(1, 1)
	mustWrite(t, d, 0, 0, 1, 2)
	for _, n := range []int{65, 66, 128, 256, 70000} {
		if e := d.Write(0, 0, bytes.Repeat([]byte{9}, n)); e != api.ErrBad {
			t.Errorf("Write of %d bytes: %v", n, e)
		}
	}
	wantSector(t, d, 0, 0, 1, 2)
	wantCounts(t, d, 0, 1, 1, false)
}

func TestNoSuchSector(t *testing.T) {
	d := New(2, 3)
	mustWrite(t, d, 1, 2, 7)
	for _, s := range append(noPlaces, 3, 4, 65536, math.MaxInt) {
		if b, e := d.Read(1, s); len(b) != 0 || e != api.ErrBad {
			t.Errorf("Read of sector %d: %v, %v", s, b, e)
		}
		if e := d.Write(1, s, []byte{1}); e != api.ErrBad {
			t.Errorf("Write of sector %d: %v", s, e)
		}
	}
	wantSector(t, d, 1, 2, 7)
	wantCounts(t, d, 1, 1, 1, false)
}

func TestNoSuchRegion(t *testing.T) {
	d := New(2, 3)
	mustWrite(t, d, 0, 0, 7)
	for _, r := range append(noPlaces, 2, 3, 64, math.MaxInt) {
		if b, e := d.Read(r, 0); len(b) != 0 || e != api.ErrBad {
			t.Errorf("Read in region %d: %v, %v", r, b, e)
		}
		if e := d.Write(r, 0, []byte{1}); e != api.ErrBad {
			t.Errorf("Write in region %d: %v", r, e)
		}
		if e := d.Barrier(r); e != api.ErrBad {
			t.Errorf("Barrier of region %d: %v", r, e)
		}
		d.Arm(r, 0)
		wantCounts(t, d, r, 0, 1, false)
	}
	wantCounts(t, d, 0, 1, 1, false)
	wantCounts(t, d, 1, 0, 1, false)
	wantSector(t, d, 0, 0, 7)
}

func TestNilDisk(t *testing.T) {
	var d *Disk
	for _, r := range []int{math.MinInt, -1, 0, 1, math.MaxInt} {
		if b, e := d.Read(r, 0); len(b) != 0 || e != api.ErrBad {
			t.Errorf("Read: %v, %v", b, e)
		}
		for _, b := range [][]byte{nil, {1}, make([]byte, 65)} {
			if e := d.Write(r, 0, b); e != api.ErrBad {
				t.Errorf("Write: %v", e)
			}
		}
		if e := d.Barrier(r); e != api.ErrBad {
			t.Errorf("Barrier: %v", e)
		}
		d.Arm(r, 0)
		d.Crash(math.MaxUint64)
		wantCounts(t, d, r, 0, 0, false)
	}
}

func TestBarrier(t *testing.T) {
	d := New(2, 2)
	mustWrite(t, d, 0, 0, 1)
	mustWrite(t, d, 0, 0, 2)
	mustWrite(t, d, 1, 0, 3)
	if e := d.Barrier(0); e != api.OK {
		t.Fatal(e)
	}
	wantCounts(t, d, 0, 0, 3, false)
	wantCounts(t, d, 1, 1, 3, false)
	mustWrite(t, d, 0, 1, 4)
	d.Crash(0)
	wantSector(t, d, 0, 0, 2)
	wantSector(t, d, 0, 1)
	wantSector(t, d, 1, 0)
	wantCounts(t, d, 0, 0, 4, false)
	if e := d.Barrier(1); e != api.OK {
		t.Errorf("Barrier with nothing pending: %v", e)
	}
}

func TestCrashKeepsNothing(t *testing.T) {
	d := New(1, 2)
	mustWrite(t, d, 0, 0, 1)
	d.Barrier(0)
	for i := range 3 {
		mustWrite(t, d, 0, 0, byte(10+i))
		mustWrite(t, d, 0, 1, byte(20+i))
	}
	d.Crash(0)
	wantSector(t, d, 0, 0, 1)
	wantSector(t, d, 0, 1)
	wantCounts(t, d, 0, 0, 7, false)
}

// What a crash kept is durable, and is not pending any more.
func TestCrashKeepsEverything(t *testing.T) {
	d := New(1, 2)
	mustWrite(t, d, 0, 0, 1)
	mustWrite(t, d, 0, 1, 2)
	mustWrite(t, d, 0, 0, 3)
	d.Crash(math.MaxUint64)
	wantCounts(t, d, 0, 0, 3, false)
	for range 2 {
		wantSector(t, d, 0, 0, 3)
		wantSector(t, d, 0, 1, 2)
		d.Crash(0)
	}
}

// Three writes of one sector, and every choice of them: the last one that is kept shows.
func TestCrashOfOneSector(t *testing.T) {
	for mask := range uint64(8) {
		d := New(1, 1)
		mustWrite(t, d, 0, 0, 9)
		d.Barrier(0)
		want := byte(9)
		for i := range 3 {
			mustWrite(t, d, 0, 0, byte(i+1))
			if mask>>i&1 == 1 {
				want = byte(i + 1)
			}
		}
		d.Crash(mask)
		wantSector(t, d, 0, 0, want)
	}
}

func TestWritesAreNumberedModulo64(t *testing.T) {
	const many = 200
	for bit := range 64 {
		d := New(1, many)
		for s := range many {
			mustWrite(t, d, 0, s, byte(s+1))
		}
		wantCounts(t, d, 0, many, many, false)
		d.Crash(1 << bit)
		for s := range many {
			want := byte(0)
			if s%64 == bit {
				want = byte(s + 1)
			}
			wantSector(t, d, 0, s, want)
		}
	}
}

// Each region numbers its writes for itself, anew behind a barrier and behind a crash; a write that failed has no number.
func TestWhereNumbersBegin(t *testing.T) {
	d := New(2, 2)
	mustWrite(t, d, 0, 1, 8)
	d.Barrier(0)
	mustWrite(t, d, 1, 0, 1)
	mustWrite(t, d, 0, 0, 2)
	d.Write(0, 0, make([]byte, 65))
	mustWrite(t, d, 0, 1, 3)
	d.Crash(1)
	wantSector(t, d, 1, 0, 1)
	wantSector(t, d, 0, 0, 2)
	wantSector(t, d, 0, 1, 8)
	mustWrite(t, d, 0, 1, 4)
	mustWrite(t, d, 0, 0, 5)
	d.Crash(2)
	wantSector(t, d, 0, 0, 5)
	wantSector(t, d, 0, 1, 8)
}

func TestArm(t *testing.T) {
	for _, c := range []struct{ n, takes int }{{0, 0}, {1, 1}, {2, 2}, {5, 5}, {-1, 0}, {math.MinInt, 0}} {
		d := New(2, 1)
		mustWrite(t, d, 0, 0, 99)
		d.Arm(0, c.n)
		for i := range c.takes {
			wantCounts(t, d, 0, i+1, i+1, false)
			mustWrite(t, d, 0, 0, byte(i+1))
		}
		last := byte(99)
		if c.takes > 0 {
			last = byte(c.takes)
		}
		for range 2 {
			wantCounts(t, d, 0, c.takes+1, c.takes+1, true)
			if e := d.Write(0, 0, []byte{77}); e != api.ErrDown {
				t.Errorf("armed with %d: Write: %v", c.n, e)
			}
			if e := d.Barrier(0); e != api.ErrDown {
				t.Errorf("armed with %d: Barrier: %v", c.n, e)
			}
			wantSector(t, d, 0, 0, last)
		}
		mustWrite(t, d, 1, 0, 5)
		if e := d.Barrier(1); e != api.OK || d.Down(1) {
			t.Errorf("armed with %d: the other region: %v, down %v", c.n, e, d.Down(1))
		}
	}
}

func TestArmedWithAGreatNumber(t *testing.T) {
	d := New(1, 1)
	d.Arm(0, math.MaxInt)
	mustWrite(t, d, 0, 0, 1)
	wantCounts(t, d, 0, 1, 1, false)
}

// Only writes that are made bring a region down.
func TestWhatDoesNotCountForArm(t *testing.T) {
	d := New(2, 2)
	d.Arm(0, 1)
	for range 3 {
		d.Write(0, 2, nil)
		d.Write(0, 0, make([]byte, 65))
		d.Read(0, 0)
		d.Barrier(0)
		mustWrite(t, d, 1, 0, 1)
	}
	wantCounts(t, d, 0, 0, 3, false)
	mustWrite(t, d, 0, 0, 1)
	wantCounts(t, d, 0, 1, 4, true)
}

func TestErrBadIsNamedAheadOfErrDown(t *testing.T) {
	d := New(1, 1)
	d.Arm(0, 0)
	for _, s := range []int{-1, 1} {
		if e := d.Write(0, s, nil); e != api.ErrBad {
			t.Errorf("Write of sector %d: %v", s, e)
		}
	}
	if e := d.Write(0, 0, make([]byte, 65)); e != api.ErrBad {
		t.Errorf("Write of 65 bytes: %v", e)
	}
	if e := d.Write(0, 0, make([]byte, 64)); e != api.ErrDown {
		t.Errorf("Write of 64 bytes: %v", e)
	}
}

// The last arming counts alone, whether the one before has run out or not.
func TestArmedAgain(t *testing.T) {
	d := New(1, 1)
	d.Arm(0, 1)
	d.Arm(0, 3)
	mustWrite(t, d, 0, 0, 1)
	mustWrite(t, d, 0, 0, 2)
	wantCounts(t, d, 0, 2, 2, false)
	d.Arm(0, 1)
	mustWrite(t, d, 0, 0, 3)
	wantCounts(t, d, 0, 3, 3, true)
	d.Arm(0, 2)
	wantCounts(t, d, 0, 3, 3, false)
	mustWrite(t, d, 0, 0, 4)
	mustWrite(t, d, 0, 0, 5)
	wantCounts(t, d, 0, 5, 5, true)
	d.Arm(0, 1)
	d.Arm(0, -1)
	wantCounts(t, d, 0, 5, 5, true)
}

// Behind a crash nothing is left of an arming, and the pending writes of a region that is down are kept or not as those of others.
func TestCrashOfArmed(t *testing.T) {
	d := New(3, 2)
	d.Arm(0, 2)
	d.Arm(1, 1)
	d.Arm(2, 5)
	for r := range 3 {
		mustWrite(t, d, r, 0, 1)
	}
	mustWrite(t, d, 0, 1, 2)
	wantCounts(t, d, 0, 2, 4, true)
	d.Crash(2)
	for r := range 3 {
		wantCounts(t, d, r, 0, 4+10*r, false)
		wantSector(t, d, r, 0)
		for range 10 {
			mustWrite(t, d, r, 0, 3)
		}
		if e := d.Barrier(r); e != api.OK {
			t.Errorf("Barrier of region %d: %v", r, e)
		}
	}
	wantSector(t, d, 0, 1, 2)
}

func TestNothingIsShared(t *testing.T) {
	d := New(1, 1)
	b := []byte{1, 2, 3}
	mustWrite(t, d, 0, 0, b...)
	b[0] = 9
	wantSector(t, d, 0, 0, 1, 2, 3)
	whole := []byte{1, 2, 3, 4}
	if e := d.Write(0, 0, whole[:2]); e != api.OK || !bytes.Equal(whole, []byte{1, 2, 3, 4}) {
		t.Errorf("%v: the bytes are now %v", e, whole)
	}
	clear(whole)
	wantSector(t, d, 0, 0, 1, 2)
	one, _ := d.Read(0, 0)
	two, _ := d.Read(0, 0)
	clear(one[:cap(one)])
	if !bytes.Equal(two, full(1, 2)) {
		t.Errorf("two answers share bytes: %v", two)
	}
	wantSector(t, d, 0, 0, 1, 2)
	d.Crash(1)
	wantSector(t, d, 0, 0, 1, 2, 3)
}

func TestDisksAreApart(t *testing.T) {
	one, two := New(1, 1), New(1, 1)
	mustWrite(t, one, 0, 0, 1)
	one.Arm(0, 0)
	wantSector(t, two, 0, 0)
	wantCounts(t, two, 0, 0, 0, false)
}

// A plain disk keeps for each region every write that it took, and finds out what a sector holds by going through all of them.
type plainDisk struct {
	regions [2][]plainWrite
	begins  [2]int // of the region's writes: the first that is pending
	left    [2]int // below 0: it isn't armed
	writes  int
}

type plainWrite struct {
	s int
	b []byte
}

func (p *plainDisk) read(r, s int) []byte {
	b := full()
	for _, w := range p.regions[r] {
		if w.s == s {
			b = full(w.b...)
		}
	}
	return b
}

func (p *plainDisk) write(r, s int, b []byte) api.Errno {
	if p.left[r] == 0 {
		return api.ErrDown
	}
	if p.left[r] > 0 {
		p.left[r]--
	}
	p.regions[r] = append(p.regions[r], plainWrite{s, b})
	p.writes++
	return api.OK
}

func (p *plainDisk) barrier(r int) api.Errno {
	if p.left[r] == 0 {
		return api.ErrDown
	}
	p.begins[r] = len(p.regions[r])
	return api.OK
}

func (p *plainDisk) crash(mask uint64) {
	for r, all := range p.regions {
		var kept []plainWrite
		for i, w := range all {
			if number := i - p.begins[r]; number < 0 || mask&(1<<(number%64)) != 0 {
				kept = append(kept, w)
			}
		}
		p.regions[r], p.begins[r], p.left[r] = kept, len(kept), -1
	}
}

func (p *plainDisk) hold(t *testing.T, d *Disk, size int) {
	t.Helper()
	for r := range p.regions {
		for s := range size {
			if got, e := d.Read(r, s); e != api.OK || !bytes.Equal(got, p.read(r, s)) {
				t.Fatalf("Read(%d, %d) is %v, %v; want %v", r, s, got, e, p.read(r, s))
			}
		}
		if waits, down := len(p.regions[r])-p.begins[r], p.left[r] == 0; d.Waits(r) != waits || d.Down(r) != down {
			t.Fatalf("region %d: waits %d, down %v; want %d, %v", r, d.Waits(r), d.Down(r), waits, down)
		}
	}
	if d.Writes() != p.writes {
		t.Fatalf("%d writes, want %d", d.Writes(), p.writes)
	}
}

// A row of numbers that look as if drawn, the same ones in every run (xorshift; it must not be 0).
type numbers uint64

func (x *numbers) next() uint64 {
	*x ^= *x << 13
	*x ^= *x >> 7
	*x ^= *x << 17
	return uint64(*x)
}

func (x *numbers) below(n int) int { return int(x.next() >> 16 % uint64(n)) }

func (x *numbers) bytes(n int) []byte {
	b := make([]byte, n)
	for i := range b {
		b[i] = byte(x.below(256))
	}
	return b
}

func TestAgainstAPlainDisk(t *testing.T) {
	const size = 3
	for seed := range 60 {
		chance := numbers(seed + 1)
		d, p := New(2, size), &plainDisk{left: [2]int{-1, -1}}
		for range 300 {
			r, s := chance.below(2), chance.below(size)
			switch n := chance.below(100); {
			case n < 80:
				b := chance.bytes(chance.below(api.Sector + 1))
				if got, want := d.Write(r, s, b), p.write(r, s, b); got != want {
					t.Fatalf("Write: %v, want %v", got, want)
				}
			case n < 84:
				if got, want := d.Barrier(r), p.barrier(r); got != want {
					t.Fatalf("Barrier: %v, want %v", got, want)
				}
			case n < 88:
				n := chance.below(90) - 5
				d.Arm(r, n)
				p.left[r] = max(n, 0)
			case n < 90:
				mask := chance.next()
				d.Crash(mask)
				p.crash(mask)
			}
			p.hold(t, d, size)
		}
	}
}
