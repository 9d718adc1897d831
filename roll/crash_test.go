package roll

import (
	"math"
	"slices"
	"strconv"
	"testing"

	"tenement/api"
	"tenement/disk"
)

// used are some sectors of a region that have something in them: its first and its last one among them.
var used = []int{1, 2, 300, 537}

// A found is what a crash may leave: a line, and of each of the used sectors whether it is as it was, or zeros.
type found struct {
	line  byte
	whole [4]bool
}

const made = 7 // the Count of all lines here

// build: a disk with what was found in its region 1, and neighbours that are full.
func build(t *testing.T, f found) *disk.Disk {
	t.Helper()
	d := disk.New(3, api.Region)
	for r := range 3 {
		fill(t, d, r, 0, 4)
	}
	put(t, d, 1, 3)
	put(t, d, 1, 0, lineByHand(f.line, made)...)
	for i, s := range used {
		put(t, d, 1, s)
		if f.whole[i] {
			put(t, d, 1, s, byte(s), 1)
		}
	}
	return d
}

// find tells what is in region 1; anything that isn't one of the two things that each sector may hold is wrong.
func find(t *testing.T, d *disk.Disk) found {
	t.Helper()
	all := image(d, 1)
	f := found{line: all[0][0]}
	want := image(disk.New(1, api.Region), 0)
	want[0] = lineByHand(f.line, made)
	for i, s := range used {
		if all[s][1] == 1 {
			f.whole[i] = true
			want[s][0], want[s][1] = byte(s), 1
		}
	}
	wantImage(t, "behind a crash", d, 1, want)
	return f
}

func (f found) count() int {
	n := 0
	for _, w := range f.whole {
		if w {
			n++
		}
	}
	return n
}

// fails arms region 1 of a disk, does something that has to fail by it, and tells how many writes wait.
func fails(t *testing.T, d *disk.Disk, n int, act func(*disk.Disk) api.Errno) int {
	t.Helper()
	d.Arm(1, n)
	if err := act(d); err != api.ErrDown {
		t.Fatalf("with %d writes: %v, want ErrDown", n, err)
	}
	if !d.Down(1) {
		t.Fatal("the region isn't down")
	}
	return d.Waits(1)
}

// after: all that may be found behind a crash, for something that goes down behind each number of writes below most.
func after(t *testing.T, f found, most int, act func(*disk.Disk) api.Errno) []found {
	t.Helper()
	var all []found
	for n := range most {
		waits := fails(t, build(t, f), n, act)
		if waits > n {
			t.Fatalf("%d writes wait of %d", waits, n)
		}
		for mask := range uint64(1) << waits {
			d := build(t, f)
			fails(t, d, n, act)
			d.Crash(mask)
			wantNeighbours(t, d)
			all = append(all, find(t, d))
		}
	}
	return all
}

func wantNeighbours(t *testing.T, d *disk.Disk) {
	t.Helper()
	whole := build(t, found{})
	wantImage(t, "neighbour", d, 0, image(whole, 0))
	wantImage(t, "neighbour", d, 2, image(whole, 2))
}

func TestWriteGoesDown(t *testing.T) {
	full := [4]bool{true, true, true, true}
	for _, from := range states {
		for _, to := range states {
			act := func(d *disk.Disk) api.Errno { return Write(d, 1, Line{State: to, Count: made}) }
			got := after(t, found{byte(from), full}, 2, act)
			// Down ahead of the write; ahead of the barrier, with the write lost, and kept.
			want := []found{{byte(from), full}, {byte(from), full}, {byte(to), full}}
			if !slices.Equal(got, want) {
				t.Errorf("Write of %d over %d leaves %v, want %v", to, from, got, want)
			}
			d := build(t, found{byte(from), full})
			d.Arm(1, 2)
			mustWrite(t, d, 1, to, made)
			d.Crash(0)
			wantLine(t, d, 1, to, made)
		}
	}
}

// A Count that fails to be written is the earlier one, or the later one: nothing between them.
func TestCountGoesDown(t *testing.T) {
	for _, count := range counts {
		for mask := range uint64(2) {
			d := disk.New(1, api.Region)
			mustWrite(t, d, 0, Live, 0x0f0f0f0f)
			d.Arm(0, 1)
			if err := Write(d, 0, Line{State: Going, Count: count}); err != api.ErrDown {
				t.Fatal(err)
			}
			d.Crash(mask)
			if mask == 0 {
				wantLine(t, d, 0, Live, 0x0f0f0f0f)
			} else {
				wantLine(t, d, 0, Going, count)
			}
		}
	}
}

func TestWipeGoesDown(t *testing.T) {
	act := func(d *disk.Disk) api.Errno { return Wipe(d, 1) }
	for _, line := range []byte{0, 1, 2, 9} {
		full := found{line, [4]bool{true, true, true, true}}
		seen := map[found]int{}
		for _, f := range after(t, full, len(used)+1, act) {
			seen[f]++
			if f.line != line {
				t.Fatalf("the line is %d, want %d", f.line, line)
			}
		}
		// Each choice of the four sectors may be what lasts.
		if len(seen) != 16 {
			t.Errorf("%d things were found, want 16", len(seen))
		}
		for f := range seen {
			d := build(t, f)
			d.Arm(1, f.count()+1)
			if err := Wipe(d, 1); err != api.OK {
				t.Fatal(err)
			}
			d.Crash(0)
			if got := find(t, d); got != (found{line: line}) {
				t.Fatalf("behind Wipe of %v: %v", f, got)
			}
		}
	}
}

// wantSettled: a last Settle, that may write as much as it has to, ends it.
func wantSettled(t *testing.T, f found) {
	t.Helper()
	d := build(t, f)
	needs := f.count()
	if f.line == 2 {
		needs++
	}
	d.Arm(1, needs+1)
	mustSettle(t, d, 1, Absent, made)
	if d.Waits(1) != 0 {
		t.Fatalf("%d writes wait", d.Waits(1))
	}
	d.Crash(0)
	if got := find(t, d); got != (found{}) {
		t.Fatalf("Settle of %v leaves %v", f, got)
	}
	wantNeighbours(t, d)
}

// All that crashes may leave of a tenant that isn't Live, from each to each: whatever it is, it is settled in the end.
func TestSettleGoesDown(t *testing.T) {
	act := func(d *disk.Disk) api.Errno {
		_, err := Settle(d, 1)
		return err
	}
	begin := []found{{2, [4]bool{true, true, true, true}}, {0, [4]bool{true, true, true, true}}}
	seen := map[found]bool{begin[0]: true, begin[1]: true}
	for work := begin; len(work) > 0; work = work[1:] {
		f := work[0]
		wantSettled(t, f)
		most := f.count() + 1
		if f.line == 2 {
			most++
		}
		for _, g := range after(t, f, most, act) {
			if g.line != f.line && g != (found{}) {
				t.Fatalf("Settle of %v, that goes down, leaves %v", f, g)
			}
			if !seen[g] {
				seen[g] = true
				work = append(work, g)
			}
		}
	}
	// A tenant that is going or absent, each with every choice of the four sectors.
	if len(seen) != 32 {
		t.Errorf("%d things were found, want 32", len(seen))
	}
}

// Every number of writes of a region that is full, and some crashes behind each, three times over.
func TestSettleOfAFullRegionGoesDown(t *testing.T) {
	for n := 0; n < regionSize+1; n += 7 {
		for i, mask := range masks {
			d := disk.New(1, api.Region)
			fill(t, d, 0, 0, regionSize)
			mustWrite(t, d, 0, Going, made)
			for j := range 3 {
				d.Arm(0, n)
				if _, err := Settle(d, 0); err != api.ErrDown && err != api.OK {
					t.Fatal(err)
				}
				d.Crash(masks[(i+j)%len(masks)])
			}
			mustSettle(t, d, 0, Absent, made)
			d.Crash(mask)
			want := image(disk.New(1, api.Region), 0)
			want[0] = lineByHand(0, made)
			wantImage(t, "Settle with "+strconv.Itoa(n)+" writes", d, 0, want)
		}
	}
}

// For a region that goes down at its very end, everything but the last barrier was done.
func TestSettleOfAFullRegionAtItsEnd(t *testing.T) {
	const all = regionSize // 537 sectors, and the line
	for n, want := range map[int]api.Errno{all - 2: api.ErrDown, all - 1: api.ErrDown, all: api.ErrDown, all + 1: api.OK} {
		for _, mask := range []uint64{0, math.MaxUint64} {
			d := disk.New(1, api.Region)
			fill(t, d, 0, 0, regionSize)
			mustWrite(t, d, 0, Going, made)
			d.Arm(0, n)
			if _, err := Settle(d, 0); err != want {
				t.Fatalf("Settle with %d writes: %v, want %v", n, err, want)
			}
			d.Crash(mask)
			if n == all+1 || n == all && mask > 0 {
				wantLine(t, d, 0, Absent, made)
			} else {
				wantLine(t, d, 0, Going, made)
			}
		}
	}
}

// What goes down in one region doesn't touch another one.
func TestOtherRegionIsDown(t *testing.T) {
	d := disk.New(2, api.Region)
	for r := range 2 {
		fill(t, d, r, 1, regionSize)
		mustWrite(t, d, r, Going, uint64(r))
	}
	before := image(d, 0)
	d.Arm(0, 0)
	mustWrite(t, d, 1, Going, 5)
	mustSettle(t, d, 1, Absent, 5)
	wantLine(t, d, 0, Going, 0)
	if _, err := Settle(d, 0); err != api.ErrDown {
		t.Error(err)
	}
	wantImage(t, "the one that is down", d, 0, before)
}
