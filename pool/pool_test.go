package pool

import (
	"bytes"
	"math"
	"math/rand"
	"slices"
	"strconv"
	"strings"
	"testing"

	"tenement/api"
	"tenement/disk"
	"tenement/lane"
	"tenement/page"
	"tenement/row"
)

// Where the pages of a region are, counted by hand.
const (
	firstSector = 514
	perPage     = 4
	pages       = 6
	frames      = 3
)

// A rig is a pool, with all that is beneath it.
type rig struct {
	t *testing.T
	d *disk.Disk
	r int
	l *lane.Lane
	p *Pool
}

func newRig(t *testing.T) *rig { return newRigIn(t, 1, 0) }

func newRigIn(t *testing.T, regions, r int) *rig {
	t.Helper()
	d := disk.New(regions, api.Region)
	l, e := lane.New(d, r)
	if e != api.OK {
		t.Fatal(e)
	}
	return &rig{t, d, r, l, New(d, r, l)}
}

func (g *rig) get(n int) *page.Page {
	g.t.Helper()
	x, e := g.p.Get(n)
	if e != api.OK || x == nil {
		g.t.Fatalf("Get(%d): %v, %v", n, x, e)
	}
	if x.Number != n || x.Tenant != g.r {
		g.t.Fatalf("Get(%d): page %d of %d", n, x.Number, x.Tenant)
	}
	return x
}

func (g *rig) put(x page.Page) *page.Page {
	g.t.Helper()
	at, e := g.p.Put(x)
	if e != api.OK || at == nil || *at != x {
		g.t.Fatalf("Put(%v): %v, %v", x, at, e)
	}
	return at
}

// append appends a record that concerns a page: its place.
func (g *rig) append(n int) uint64 {
	g.t.Helper()
	place, e := g.l.Append(api.Record{Kind: api.Update, Txn: 1, Page: n})
	if e != api.OK {
		g.t.Fatal(e)
	}
	return place
}

// touch touches a page with a new record's place.
func (g *rig) touch(n int) uint64 {
	g.t.Helper()
	place := g.append(n)
	g.p.Touch(n, place)
	return place
}

func (g *rig) flush(n int) {
	g.t.Helper()
	if e := g.p.Flush(n); e != api.OK {
		g.t.Fatalf("Flush(%d): %v", n, e)
	}
}

func (g *rig) flushAll() {
	g.t.Helper()
	if e := g.p.FlushAll(); e != api.OK {
		g.t.Fatalf("FlushAll: %v", e)
	}
}

// wantDirty holds Dirty and Clean against since which places pages are dirty.
func (g *rig) wantDirty(since ...uint64) {
	g.t.Helper()
	since = append(since, make([]uint64, pages-len(since))...)
	if got := g.p.Dirty(); !slices.Equal(got, since) {
		g.t.Fatalf("Dirty is %v, want %v", got, since)
	}
	for n, place := range since {
		if g.p.Clean(n) != (place == 0) {
			g.t.Fatalf("Clean(%d) is %v", n, g.p.Clean(n))
		}
	}
}

// atHand: the numbers of the pages that are in memory; all of these are dirty then.
func (g *rig) atHand() []int {
	var all []int
	for n := range pages {
		g.p.Touch(n, 1<<40)
		if !g.p.Clean(n) {
			all = append(all, n)
		}
	}
	return all
}

func (g *rig) wantAtHand(numbers ...int) {
	g.t.Helper()
	if got := g.atHand(); !slices.Equal(got, numbers) {
		g.t.Fatalf("pages %v are in memory, want %v", got, numbers)
	}
}

// raw: the bytes of a page on the disk.
func (g *rig) raw(n int) []byte {
	g.t.Helper()
	var all []byte
	for i := range perPage {
		b, e := g.d.Read(g.r, firstSector+perPage*n+i)
		if e != api.OK {
			g.t.Fatal(e)
		}
		all = append(all, b...)
	}
	return all
}

// store writes a page's bytes to the disk, without the pool.
func (g *rig) store(n int, b []byte) {
	g.t.Helper()
	for i := range perPage {
		if e := g.d.Write(g.r, firstSector+perPage*n+i, b[i*64:][:64]); e != api.OK {
			g.t.Fatal(e)
		}
	}
	if e := g.d.Barrier(g.r); e != api.OK {
		g.t.Fatal(e)
	}
}

func (g *rig) wantRaw(n int, x page.Page) {
	g.t.Helper()
	if got := g.raw(n); !bytes.Equal(got, page.Encode(x)) {
		g.t.Fatalf("page %d on the disk is %v, want %v", n, got, x)
	}
}

// slot: the bytes of a row.
func slot(value string) string {
	return string(row.Encode(api.Row{Table: 1, Key: "k", Value: value}))
}

// filled: a page with a mark and a row.
func filled(tenant, n int, mark uint64, value string) page.Page {
	x := page.Page{Mark: mark, Tenant: tenant, Number: n}
	x.Set(n%5, slot(value))
	return x
}

// do does several things: "g2" gets page 2, "p2" puts it, "t2" touches it, "f2" flushes it, "a" flushes all.
func (g *rig) do(script string) {
	g.t.Helper()
	for _, word := range strings.Fields(script) {
		n := int(word[len(word)-1] - '0')
		switch word[0] {
		case 'g':
			g.get(n)
		case 'p':
			g.put(page.Page{Tenant: g.r, Number: n})
		case 't':
			g.touch(n)
		case 'f':
			g.flush(n)
		case 'a':
			g.flushAll()
		default:
			g.t.Fatal(word)
		}
	}
}

func TestFirst(t *testing.T) {
	if First != firstSector || First+perPage*pages != api.Region {
		t.Fatal(First)
	}
}

// A page is where its number says, whole, and nowhere else.
func TestLayout(t *testing.T) {
	for n := range pages {
		g := newRigIn(t, 4, 2)
		x := g.get(n)
		x.Set(1, slot("v"))
		mark := g.touch(n)
		if mark != 1<<20+12 {
			t.Fatal(mark)
		}
		g.flush(n)
		var want []byte
		body := append([]byte{0, 2, 0, byte(n)}, make([]byte, 220)...)
		copy(body[44:], slot("v"))
		for i := range perPage {
			want = append(want, 0, 0, 0, 0, 0, 16, 0, 12)
			want = append(want, body[i*56:][:56]...)
		}
		if got := g.raw(n); !bytes.Equal(got, want) {
			t.Fatalf("page %d: %v, want %v", n, got, want)
		}
		for region := range 4 {
			for s := range api.Region {
				mine := region == 2 && (s >= firstSector+perPage*n && s < firstSector+perPage*(n+1) || s >= 1 && s <= 2)
				b, _ := g.d.Read(region, s)
				if (slices.Max(b) > 0) != mine {
					t.Fatalf("page %d: sector %d of region %d is %v", n, s, region, b)
				}
			}
		}
	}
}

// In a region without pages all are free, and the tenant's.
func TestGetOfZeros(t *testing.T) {
	for _, r := range []int{0, 1, 4} {
		for n := range pages {
			g := newRigIn(t, 5, r)
			if x := g.get(n); *x != (page.Page{Tenant: r, Number: n}) {
				t.Fatal(x)
			}
			if g.d.Waits(r) != 0 || g.d.Writes() != 2 {
				t.Fatal("Get writes")
			}
			g.wantDirty()
			g.wantAtHand(n)
		}
	}
}

func TestGetOfStored(t *testing.T) {
	for n := range pages {
		g := newRigIn(t, 3, 1)
		x := filled(1, n, 77, "stored")
		g.store(n, page.Encode(x))
		if got := g.get(n); *got != x {
			t.Fatal(got)
		}
		// What is in memory counts, whatever the disk has.
		g.store(n, page.Encode(filled(1, n, 78, "later")))
		if got := g.get(n); *got != x {
			t.Fatal(got)
		}
		g.store(n, bytes.Repeat([]byte{1}, 256))
		if got := g.get(n); *got != x {
			t.Fatal(got)
		}
		g.wantDirty()
	}
}

var wrongNumbers = []int{-1, -2, pages, pages + 1, 1 << 16, 1 << 32, math.MaxInt, math.MinInt}

func TestWrongNumbers(t *testing.T) {
	g := newRig(t)
	g.do("g0 g1 g5")
	since := g.touch(5)
	writes := g.d.Writes()
	for _, n := range wrongNumbers {
		if x, e := g.p.Get(n); x != nil || e != api.ErrBad {
			t.Fatalf("Get(%d): %v, %v", n, x, e)
		}
		// Of Put the document only says that these aren't valid; it ends, and nothing comes into memory.
		g.p.Put(page.Page{Number: n})
		g.p.Touch(n, 9)
		if !g.p.Clean(n) {
			t.Fatalf("page %d isn't clean", n)
		}
		if e := g.p.Flush(n); e != api.OK {
			t.Fatal(e)
		}
		g.wantDirty(0, 0, 0, 0, 0, since)
	}
	if g.d.Writes() != writes {
		t.Fatal("something was written")
	}
	g.wantAtHand(0, 1, 5)
	// Also ahead of an error of the disk.
	if x, e := New(nil, -1, nil).Get(-1); x != nil || e != api.ErrBad {
		t.Fatal(x, e)
	}
}

// The page in memory is one thing, which everyone changes who got it.
func TestGetIsShared(t *testing.T) {
	g := newRig(t)
	x := g.get(3)
	x.Set(2, slot("a"))
	if y := g.get(3); y != x || y.Slot(2) != slot("a") {
		t.Fatal("it is another page")
	}
	y := g.put(filled(0, 3, 5, "b"))
	if z := g.get(3); z != y || *z != filled(0, 3, 5, "b") {
		t.Fatal(z)
	}
	y.Set(4, slot("c"))
	if z := g.get(3); z.Slot(4) != slot("c") {
		t.Fatal(z)
	}
}

// A page that was lost is no one's: its pointer leads to no other page.
func TestLostPage(t *testing.T) {
	g := newRig(t)
	lost := g.get(0)
	g.do("g1 g2 g3")
	lost.Set(0, slot("lost"))
	lost.Mark = 99
	for n := range pages {
		x := g.get(n)
		if x == lost || x.Slot(0) != "" || x.Mark != 0 {
			t.Fatalf("page %d is %v", n, x)
		}
	}
	if lost.Number != 0 || lost.Slot(0) != slot("lost") || lost.Mark != 99 {
		t.Fatal(lost)
	}
}

// What was changed without a Touch is lost with the page.
func TestChangedWithoutTouch(t *testing.T) {
	g := newRig(t)
	g.get(0).Set(0, slot("a"))
	writes := g.d.Writes()
	g.flush(0)
	g.flushAll()
	g.do("g1 g2 g3")
	if g.d.Writes() != writes {
		t.Fatal("it was written")
	}
	if g.get(0).Slot(0) != "" {
		t.Fatal("it is there")
	}
}

// What Put was given is not the page in memory.
func TestPutCopies(t *testing.T) {
	g := newRig(t)
	x := filled(0, 1, 3, "a")
	at := g.put(x)
	at.Set(1, "")
	at.Mark = 4
	if x != filled(0, 1, 3, "a") {
		t.Fatal(x)
	}
	x.Set(1, slot("b"))
	if g.get(1).Slot(1) != "" {
		t.Fatal("it is shared")
	}
	// The page in memory itself may be put, and another one's.
	if again := g.put(*at); *again != *at {
		t.Fatal(again)
	}
	y := *at
	y.Number = 2
	if other := g.put(y); other == at || g.get(1) == g.get(2) {
		t.Fatal("both are one page")
	}
	g.wantAtHand(1, 2)
}

var hands = []struct {
	script string
	want   []int
}{
	{"", nil},
	{"g4", []int{4}},
	{"g4 g4 g4 g4", []int{4}},
	{"g5 g0", []int{0, 5}},
	{"g2 g1 g0", []int{0, 1, 2}},
	// All were requested: the hand goes round, and is behind the first frame then.
	{"g0 g1 g2 g3", []int{1, 2, 3}},
	{"g0 g1 g2 g3 g4", []int{2, 3, 4}},
	{"g0 g1 g2 g3 g4 g5", []int{3, 4, 5}},
	{"g0 g1 g2 g3 g4 g5 g0", []int{0, 4, 5}},
	{"g0 g1 g2 g3 g4 g5 g0 g1 g2 g3", []int{1, 2, 3}},
	{"g2 g1 g0 g3", []int{0, 1, 3}},
	{"g2 g1 g0 g3 g4", []int{0, 3, 4}},
	{"g0 g1 g2 g0 g1 g0 g3", []int{1, 2, 3}},
	{"g0 g1 g2 g3 g1 g2 g3 g4", []int{2, 3, 4}},
	{"g0 g1 g2 g3 g1 g2 g3 g4 g0", []int{0, 3, 4}},
	// Only some were: these are passed, but only once.
	{"g0 g1 g2 g3 g1 g4", []int{1, 3, 4}},
	{"g0 g1 g2 g3 g1 g4 g5", []int{3, 4, 5}},
	{"g0 g1 g2 g3 g1 g4 g5 g0", []int{0, 4, 5}},
	{"g0 g1 g2 g3 g1 g4 g1 g5", []int{1, 4, 5}},
	{"g0 g1 g2 g3 g1 g4 g1 g5 g0", []int{0, 4, 5}},
	{"g0 g1 g2 g3 g1 g4 g1 g5 g1 g0", []int{0, 1, 5}},
	{"g0 g1 g2 g3 g2 g4", []int{2, 3, 4}},
	// 2 was requested, 3 and 4 were when they came: the hand goes round, and is back at 2.
	{"g0 g1 g2 g3 g2 g4 g5", []int{3, 4, 5}},
	{"g0 g1 g2 g3 g3 g4", []int{2, 3, 4}},
	// A page that was put was requested, also one that was in memory.
	{"p0 p1 p2 p3", []int{1, 2, 3}},
	{"p0 p1 p2 p3 p4", []int{2, 3, 4}},
	{"g0 g1 g2 g3 p1 g4", []int{1, 3, 4}},
	{"g0 g1 g2 p3 g1 p4", []int{1, 3, 4}},
	{"p0 g1 p2 g3 p1 p4 g5", []int{3, 4, 5}},
	{"p5 p5 p5 p5", []int{5}},
	// Touch and Flush request nothing.
	{"g0 g1 g2 g3 t1 g4", []int{2, 3, 4}},
	{"g0 g1 g2 g3 t1 f1 g4", []int{2, 3, 4}},
	{"g0 g1 g2 g3 t2 a g4", []int{2, 3, 4}},
	{"g0 g1 g2 t0 t1 t2 g3", []int{1, 2, 3}},
	{"g0 g1 g2 t0 t1 t2 g3 g4 g5", []int{3, 4, 5}},
	// What isn't in memory is neither touched nor flushed into it.
	{"t0 f1 a", nil},
	{"g0 g1 g2 t3 f3 a g3", []int{1, 2, 3}},
}

func TestHand(t *testing.T) {
	for _, c := range hands {
		g := newRig(t)
		g.do(c.script)
		if got := g.atHand(); !slices.Equal(got, c.want) {
			t.Errorf("after %q pages %v are in memory, want %v", c.script, got, c.want)
		}
	}
}

// A sketch tells what a pool must do, in a plain way: its frames as a list.
type sketch struct {
	list []leaf
	hand int
	disk [pages]page.Page
}

type leaf struct {
	page      page.Page
	requested bool
	dirty     bool
	since     uint64
}

func newSketch() *sketch {
	s := &sketch{}
	for n := range pages {
		s.disk[n].Number = n
	}
	return s
}

func (s *sketch) at(n int) int {
	return slices.IndexFunc(s.list, func(f leaf) bool { return f.page.Number == n })
}

func (s *sketch) put(x page.Page) {
	i := s.at(x.Number)
	if i < 0 {
		i = s.room()
		s.list[i] = leaf{}
	}
	s.list[i].page, s.list[i].requested = x, true
}

func (s *sketch) room() int {
	if len(s.list) < frames {
		s.list = append(s.list, leaf{})
		return len(s.list) - 1
	}
	for {
		i := s.hand
		s.hand = (s.hand + 1) % frames
		if !s.list[i].requested {
			s.save(i)
			return i
		}
		s.list[i].requested = false
	}
}

func (s *sketch) save(i int) {
	if f := &s.list[i]; f.dirty {
		s.disk[f.page.Number] = f.page
		f.dirty, f.since = false, 0
	}
}

func (s *sketch) get(n int) {
	if i := s.at(n); i >= 0 {
		s.list[i].requested = true
		return
	}
	x := s.disk[n]
	s.put(x)
}

func (s *sketch) touch(n int, place uint64) {
	i := s.at(n)
	if i < 0 {
		return
	}
	f := &s.list[i]
	f.page.Mark = place
	if !f.dirty {
		f.dirty, f.since = true, place
	}
}

func (s *sketch) flush(n int) {
	if i := s.at(n); i >= 0 {
		s.save(i)
	}
}

func (s *sketch) dirty() []uint64 {
	all := make([]uint64, pages)
	for _, f := range s.list {
		all[f.page.Number] = f.since
	}
	return all
}

func (s *sketch) numbers() []int {
	var all []int
	for _, f := range s.list {
		all = append(all, f.page.Number)
	}
	slices.Sort(all)
	return all
}

// All sequences of a few requests.
func TestAllRequests(t *testing.T) {
	const used, length = 5, 6
	count := 1
	for range length {
		count *= used
	}
	d := disk.New(1, api.Region)
	l, _ := lane.New(d, 0)
	for i := range count {
		g := &rig{t, d, 0, l, New(d, 0, l)}
		s := newSketch()
		var order []int
		for rest, at := i, 0; at < length; rest, at = rest/used, at+1 {
			order = append(order, rest%used)
			g.get(rest % used)
			s.get(rest % used)
		}
		if got := g.atHand(); !slices.Equal(got, s.numbers()) {
			t.Fatalf("after %v pages %v are in memory, want %v", order, got, s.numbers())
		}
	}
}

// Long sequences of all calls, by chance (always the same).
func TestManyCalls(t *testing.T) {
	for seed := range int64(300) {
		chance := rand.New(rand.NewSource(seed))
		g, s := newRig(t), newSketch()
		for step := range 80 {
			n := chance.Intn(pages)
			switch chance.Intn(10) {
			case 0, 1, 2, 3:
				s.get(n)
				if x := g.get(n); *x != s.list[s.at(n)].page {
					t.Fatalf("seed %d, step %d: page %d is %v", seed, step, n, x)
				}
			case 4:
				x := filled(0, n, uint64(step), strconv.Itoa(step))
				s.put(x)
				g.put(x)
			case 5, 6, 7:
				if i := s.at(n); i >= 0 && chance.Intn(2) == 0 {
					s.get(n)
					g.get(n).Set(step%5, slot(strconv.Itoa(step)))
					s.list[i].page.Set(step%5, slot(strconv.Itoa(step)))
				}
				s.touch(n, g.touch(n))
			case 8:
				s.flush(n)
				g.flush(n)
			case 9:
				if chance.Intn(3) == 0 {
					for n := range pages {
						s.flush(n)
					}
					g.flushAll()
				}
			}
			g.wantDirty(s.dirty()...)
			for n, x := range s.disk {
				g.wantRaw(n, x)
			}
			if g.d.Waits(0) > 0 {
				t.Fatal("something waits")
			}
		}
		g.wantAtHand(s.numbers()...)
	}
}

func TestTouch(t *testing.T) {
	g := newRig(t)
	for n := range pages {
		g.p.Touch(n, 5)
	}
	g.wantDirty()
	x, y := g.get(0), g.get(5)
	g.p.Touch(0, 7)
	if x.Mark != 7 || y.Mark != 0 {
		t.Fatal(x.Mark, y.Mark)
	}
	g.wantDirty(7)
	g.p.Touch(0, 9)
	g.p.Touch(5, 10)
	if x.Mark != 9 || y.Mark != 10 {
		t.Fatal(x.Mark, y.Mark)
	}
	g.wantDirty(7, 0, 0, 0, 0, 10)
	// Any place is as good as another one.
	g.p.Touch(0, 3)
	g.p.Touch(5, math.MaxUint64)
	if x.Mark != 3 || y.Mark != math.MaxUint64 {
		t.Fatal(x.Mark, y.Mark)
	}
	g.wantDirty(7, 0, 0, 0, 0, 10)
	// Written, they may be dirty anew.
	g.flush(0)
	g.wantDirty(0, 0, 0, 0, 0, 10)
	g.p.Touch(0, math.MaxUint64)
	g.wantDirty(math.MaxUint64, 0, 0, 0, 0, 10)
	g.flushAll()
	g.wantDirty()
	g.p.Touch(5, 11)
	g.p.Touch(5, 12)
	g.wantDirty(0, 0, 0, 0, 0, 11)
	g.wantRaw(0, page.Page{Mark: math.MaxUint64, Number: 0})
	g.wantRaw(5, page.Page{Mark: math.MaxUint64, Number: 5})
}

// A page that was touched with place 0 is dirty too, though Dirty can't tell; it is written as zeros.
func TestTouchWithPlace0(t *testing.T) {
	g := newRig(t)
	g.store(2, page.Encode(filled(0, 2, 4, "a")))
	g.get(2)
	g.p.Touch(2, 0)
	if g.p.Clean(2) || slices.Max(g.p.Dirty()) > 0 {
		t.Fatal(g.p.Clean(2), g.p.Dirty())
	}
	g.p.Touch(2, 8)
	if g.p.Clean(2) || slices.Max(g.p.Dirty()) > 0 {
		t.Fatal(g.p.Clean(2), g.p.Dirty())
	}
	g.p.Touch(2, 0)
	g.flush(2)
	g.wantDirty()
	if slices.Max(g.raw(2)) > 0 {
		t.Fatal(g.raw(2))
	}
}

// A page that is lost and comes again is clean.
func TestDirtyPageIsLost(t *testing.T) {
	g := newRig(t)
	x := g.get(0)
	x.Set(0, slot("a"))
	first := g.touch(0)
	x.Set(1, slot("b"))
	second := g.touch(0)
	g.do("g1 g2")
	g.wantDirty(first)
	writes := g.d.Writes()
	g.get(3)
	// Two records, of 11 bytes each, behind the Check: one sector; and a page.
	if g.d.Writes() != writes+1+perPage || g.d.Waits(0) > 0 {
		t.Fatal(g.d.Writes()-writes, g.d.Waits(0))
	}
	g.wantDirty()
	want := page.Page{Mark: second}
	want.Set(0, slot("a"))
	want.Set(1, slot("b"))
	g.wantRaw(0, want)
	// The next one to be lost isn't dirty.
	writes = g.d.Writes()
	if x := g.get(0); *x != want {
		t.Fatal(x)
	}
	if g.d.Writes() != writes {
		t.Fatal("a page was written that wasn't changed")
	}
	third := g.touch(0)
	g.wantDirty(third)
}

// A page that isn't lost stays dirty, and isn't written.
func TestOthersStayDirty(t *testing.T) {
	g := newRig(t)
	g.do("g0 g1 g2")
	a, b := g.touch(1), g.touch(2)
	writes := g.d.Writes()
	g.get(3)
	if g.d.Writes() != writes {
		t.Fatal("something was written")
	}
	g.wantDirty(0, a, b)
	c := g.touch(3)
	g.get(4)
	g.wantDirty(0, 0, b, c)
	g.wantRaw(1, page.Page{Mark: a, Number: 1})
	g.wantRaw(2, page.Page{Number: 2})
	g.wantRaw(3, page.Page{Number: 3})
}

func TestPutOfDirty(t *testing.T) {
	g := newRig(t)
	g.get(4)
	since := g.touch(4)
	later := g.touch(4)
	g.put(filled(0, 4, later, "a"))
	g.wantDirty(0, 0, 0, 0, since)
	g.flush(4)
	g.wantRaw(4, filled(0, 4, later, "a"))
	g.wantDirty()
	// It isn't dirty now, and isn't made dirty.
	writes := g.d.Writes()
	g.put(filled(0, 4, later+1, "b"))
	g.wantDirty()
	g.flush(4)
	g.flushAll()
	if g.d.Writes() != writes {
		t.Fatal("it was written")
	}
	g.wantRaw(4, filled(0, 4, later, "a"))
	if *g.get(4) != filled(0, 4, later+1, "b") {
		t.Fatal(g.get(4))
	}
	last := g.touch(4)
	g.wantDirty(0, 0, 0, 0, last)
	g.flush(4)
	g.wantRaw(4, filled(0, 4, last, "b"))
}

// Put into a frame whose page was dirty: that page is written, and the new one isn't dirty.
func TestPutTakesFrameOfDirty(t *testing.T) {
	g := newRig(t)
	g.do("g0 g1 g2")
	mark := g.touch(0)
	g.put(filled(0, 3, 5, "a"))
	g.wantDirty()
	g.wantRaw(0, page.Page{Mark: mark})
	g.wantRaw(3, page.Page{Number: 3})
	if *g.get(3) != filled(0, 3, 5, "a") {
		t.Fatal(g.get(3))
	}
	g.wantAtHand(1, 2, 3)
}

// Put doesn't read: what the disk has may be torn.
func TestPutOverTorn(t *testing.T) {
	g := newRig(t)
	g.store(1, bytes.Repeat([]byte{7}, 256))
	if x, e := g.p.Get(1); x != nil || e != api.ErrTorn {
		t.Fatal(x, e)
	}
	x := filled(0, 1, 0, "a")
	g.put(x)
	x.Mark = g.touch(1)
	g.flush(1)
	g.wantRaw(1, x)
	g.do("g2 g3 g4 g5")
	if *g.get(1) != x {
		t.Fatal(g.get(1))
	}
}

// A page of another tenant is put as it is; when it was written and lost, it isn't this one's.
func TestPutOfAnotherTenant(t *testing.T) {
	g := newRigIn(t, 2, 1)
	x := filled(3, 2, 5, "a")
	if g.put(x); *mustGet(t, g.p, 2) != x {
		t.Fatal("it is another one")
	}
	x.Mark = g.touch(2)
	g.do("g0 g1 g3")
	g.wantRaw(2, x)
	if y, e := g.p.Get(2); y != nil || e != api.ErrTorn {
		t.Fatal(y, e)
	}
}

func mustGet(t *testing.T, p *Pool, n int) *page.Page {
	t.Helper()
	x, e := p.Get(n)
	if e != api.OK {
		t.Fatal(e)
	}
	return x
}

func TestFlush(t *testing.T) {
	for n := range pages {
		g := newRig(t)
		at := g.append(n)
		writes := g.d.Writes()
		// Not in memory; not dirty: nothing is done, not even the lane is flushed.
		g.flush(n)
		g.get(n)
		g.flush(n)
		g.flushAll()
		if g.d.Writes() != writes {
			t.Fatal("something was written")
		}
		g.p.Touch(n, at)
		g.flush(n)
		if g.d.Writes() != writes+1+perPage || g.d.Waits(0) > 0 {
			t.Fatal(g.d.Writes()-writes, g.d.Waits(0))
		}
		g.wantDirty()
		g.wantRaw(n, page.Page{Mark: at, Number: n})
		g.flush(n)
		g.flushAll()
		if g.d.Writes() != writes+1+perPage {
			t.Fatal("it was written twice")
		}
		// Its record is durable: it alone is written.
		g.p.Touch(n, at)
		g.flush(n)
		if g.d.Writes() != writes+1+2*perPage {
			t.Fatal(g.d.Writes() - writes)
		}
		g.wantAtHand(n)
	}
}

// The page that is flushed is written alone; it stays in memory.
func TestFlushOfOne(t *testing.T) {
	g := newRig(t)
	g.do("g1 g3 g5")
	a, b, c := g.touch(1), g.touch(3), g.touch(5)
	x := g.get(3)
	g.flush(3)
	g.wantDirty(0, a, 0, 0, 0, c)
	g.wantRaw(1, page.Page{Number: 1})
	g.wantRaw(3, page.Page{Mark: b, Number: 3})
	g.wantRaw(5, page.Page{Number: 5})
	if g.get(3) != x {
		t.Fatal("it was lost")
	}
	_, all, e := lane.Open(g.d, 0)
	if e != api.OK || len(all) != 4 {
		t.Fatal(all, e)
	}
}

// FlushAll writes by numbers, whatever frames the pages are in: as many writes as are taken show which came first.
func TestFlushAllByNumbers(t *testing.T) {
	for _, script := range []string{"g0 g3 g5", "g0 g5 g3", "g3 g0 g5", "g3 g5 g0", "g5 g0 g3", "g5 g3 g0"} {
		for n := range 14 {
			g := newRig(t)
			g.do(script)
			a, b, c := g.touch(5), g.touch(0), g.touch(3)
			g.d.Arm(0, n)
			e := g.p.FlushAll()
			if (e == api.OK) != (n > 13) || e != api.OK && e != api.ErrDown {
				t.Fatal(n, e)
			}
			written := func(from int, mark uint64) uint64 {
				// Just as many writes are taken as come ahead of a barrier: that one fails.
				if n > from+perPage {
					return 0
				}
				return mark
			}
			g.wantDirty(written(1, b), 0, 0, written(5, c), 0, written(9, a))
			for i, number := range []int{0, 3, 5} {
				mark := []uint64{b, c, a}[i]
				for s := range perPage {
					sector := g.raw(number)[s*64:][:64]
					if n > 1+perPage*i+s {
						if !bytes.Equal(sector, page.Encode(page.Page{Mark: mark, Number: number})[s*64:][:64]) {
							t.Fatalf("%d writes: sector %d of page %d is %v", n, s, number, sector)
						}
					} else if slices.Max(sector) > 0 {
						t.Fatalf("%d writes: sector %d of page %d is %v", n, s, number, sector)
					}
				}
			}
			// Each one that isn't dirty any more is durable.
			g.d.Crash(0)
			if n > 5 {
				g.wantRaw(0, page.Page{Mark: b})
			}
			if n > 9 {
				g.wantRaw(3, page.Page{Mark: c, Number: 3})
			}
			if n > 13 {
				g.wantRaw(5, page.Page{Mark: a, Number: 5})
			}
		}
	}
}

func TestFlushAllOfAll(t *testing.T) {
	g := newRig(t)
	g.do("g0 g1 g2")
	a, b, c := g.touch(2), g.touch(0), g.touch(1)
	writes := g.d.Writes()
	g.flushAll()
	g.wantDirty()
	if g.d.Writes() != writes+1+3*perPage || g.d.Waits(0) > 0 {
		t.Fatal(g.d.Writes()-writes, g.d.Waits(0))
	}
	g.wantRaw(0, page.Page{Mark: b, Number: 0})
	g.wantRaw(1, page.Page{Mark: c, Number: 1})
	g.wantRaw(2, page.Page{Mark: a, Number: 2})
	g.wantAtHand(0, 1, 2)
}

func TestDirtyIsNew(t *testing.T) {
	g := newRig(t)
	g.wantDirty()
	g.do("g0 g5")
	a, b := g.touch(0), g.touch(5)
	g.wantDirty(a, 0, 0, 0, 0, b)
	g.p.Dirty()[0] = 99
	g.wantDirty(a, 0, 0, 0, 0, b)
}

// torn: bytes that aren't a page of a tenant and a number.
func torn(tenant, n int) map[string][]byte {
	whole := func(mark uint64, value string) []byte { return page.Encode(filled(tenant, n, mark, value)) }
	all := map[string][]byte{
		"another tenant's": page.Encode(filled(tenant+1, n, 5, "a")),
		"another number's": page.Encode(filled(tenant, n+1, 5, "a")),
		"no page's":        bytes.Repeat([]byte{1}, 256),
	}
	for i := range perPage {
		b := whole(5, "a")
		copy(b[i*64:][:64], whole(6, "a")[i*64:])
		all["later in sector "+strconv.Itoa(i)] = b
		b = whole(5, "a")
		copy(b[i*64:][:64], make([]byte, 64))
		all["zeros in sector "+strconv.Itoa(i)] = b
		b = make([]byte, 256)
		copy(b[i*64:][:64], whole(5, "a")[i*64:])
		all["new in sector "+strconv.Itoa(i)] = b
	}
	return all
}

// A page that isn't whole, or is another one's, takes no frame, and nothing of the pool changes.
func TestGetOfTorn(t *testing.T) {
	for n := range pages {
		for name, b := range torn(1, n) {
			g := newRigIn(t, 3, 1)
			g.store(n, b)
			if x, e := g.p.Get(n); x != nil || e != api.ErrTorn {
				t.Fatalf("page %d, %s: %v, %v", n, name, x, e)
			}
			others := slices.DeleteFunc([]int{0, 1, 2, 3, 4, 5}, func(other int) bool { return other == n })
			since := make([]uint64, pages)
			for _, other := range others[:frames] {
				g.get(other)
				since[other] = g.touch(other)
			}
			writes := g.d.Writes()
			if x, e := g.p.Get(n); x != nil || e != api.ErrTorn {
				t.Fatalf("page %d, %s: %v, %v", n, name, x, e)
			}
			// ErrTorn goes ahead of what the disk would answer to a write.
			g.d.Arm(1, 0)
			if x, e := g.p.Get(n); x != nil || e != api.ErrTorn {
				t.Fatalf("page %d, %s: %v, %v", n, name, x, e)
			}
			g.wantDirty(since...)
			if g.d.Writes() != writes {
				t.Fatal("something was written")
			}
			g.d.Arm(1, 100)
			// The hand is where it was, and all that were requested still are.
			g.get(others[frames])
			g.wantAtHand(slices.Sorted(slices.Values(append(others[1:frames:frames], others[frames])))...)
		}
	}
}

// same: do two rigs have the same pages on the disk, and the same dirty ones?
func same(a, b *rig) bool {
	for n := range pages {
		if !bytes.Equal(a.raw(n), b.raw(n)) {
			return false
		}
	}
	return slices.Equal(a.p.Dirty(), b.p.Dirty())
}

var failures = []struct {
	name  string
	begin string
	act   func(*Pool) api.Errno
}{
	{"Get of a page in place of a dirty one", "g0 g1 g2 t0 t1", getOf(3)},
	{"Get with a hand that goes on", "g0 g1 g2 g3 g1 t2 t1 t3", getOf(4)},
	{"Get with a hand that goes round", "g0 g1 g2 g3 g1 g2 t1 t3", getOf(5)},
	{"Put in place of a dirty one", "g0 g1 g2 t0 t2", putOf(4)},
	{"Put with a hand that goes on", "g0 g1 g2 g3 p1 t1 t2", putOf(0)},
	{"Flush", "g0 g1 g2 t0 t1 t0", func(p *Pool) api.Errno { return p.Flush(0) }},
	{"FlushAll of one", "g5 g3 t3 t3", func(p *Pool) api.Errno { return p.FlushAll() }},
}

func getOf(n int) func(*Pool) api.Errno {
	return func(p *Pool) api.Errno {
		x, e := p.Get(n)
		return oneOf(x, e)
	}
}

func putOf(n int) func(*Pool) api.Errno {
	return func(p *Pool) api.Errno {
		x, e := p.Put(page.Page{Number: n})
		return oneOf(x, e)
	}
}

// oneOf: there is a page, or an error.
func oneOf(x *page.Page, e api.Errno) api.Errno {
	if (x == nil) != (e != api.OK) {
		panic("a page and an error")
	}
	return e
}

// A disk that fails at each of its operations: the error is answered, and the pool is as it was, also its hand, so that all goes on as if that call hadn't been.
func TestDiskGoesDown(t *testing.T) {
	for _, c := range failures {
		for n := 0; ; n++ {
			made := func() *rig {
				g := newRig(t)
				g.do(c.begin)
				return g
			}
			g, other := made(), made()
			g.d.Arm(0, n)
			e := c.act(g.p)
			if e == api.OK {
				if n != 6 {
					t.Fatalf("%s: %d writes were enough", c.name, n)
				}
				break
			}
			if e != api.ErrDown {
				t.Fatalf("%s: %v", c.name, e)
			}
			if !slices.Equal(g.p.Dirty(), other.p.Dirty()) {
				t.Fatalf("%s, %d writes: Dirty is %v, want %v", c.name, n, g.p.Dirty(), other.p.Dirty())
			}
			for range 2 {
				// It stays so.
				if e := c.act(g.p); e != api.ErrDown {
					t.Fatalf("%s: %v", c.name, e)
				}
			}
			g.d.Arm(0, 1000)
			follow(t, c.name, g, other, c.act)
		}
	}
}

// follow holds a pool, of which a call had failed, against one of which none had, through several ways to go on.
func follow(t *testing.T, name string, g, other *rig, act func(*Pool) api.Errno) {
	t.Helper()
	both := func(f func(*rig)) {
		f(g)
		f(other)
	}
	both(func(g *rig) { g.do("g1") })
	both(func(g *rig) {
		if e := act(g.p); e != api.OK {
			t.Fatalf("%s: %v", name, e)
		}
	})
	if !same(g, other) {
		t.Fatalf("%s: the pools differ", name)
	}
	for _, word := range []string{"g5", "t5", "g0", "g5", "g3", "t3", "g2", "a", "g1", "g4"} {
		both(func(g *rig) { g.do(word) })
		if !same(g, other) {
			t.Fatalf("%s: the pools differ behind %s", name, word)
		}
	}
	if a, b := g.atHand(), other.atHand(); !slices.Equal(a, b) {
		t.Fatalf("%s: pages %v are in memory, want %v", name, a, b)
	}
}

// A region that is down is read, and what isn't dirty is lost.
func TestDownWithoutWrites(t *testing.T) {
	g := newRig(t)
	g.append(0)
	g.d.Arm(0, 0)
	g.do("g0 g1 g2 g3 g4 p5 p0 f0 f1 a")
	g.wantDirty()
	g.wantAtHand(0, 4, 5)
}

// A region that has no room for a page: the disk's error is answered.
func TestSmallRegions(t *testing.T) {
	for size := firstSector; size < api.Region; size++ {
		d := disk.New(2, size)
		l, e := lane.New(d, 1)
		if e != api.OK {
			t.Fatal(e)
		}
		for n := range pages {
			p := New(d, 1, l)
			fits := firstSector+perPage*(n+1) <= size
			x, e := p.Get(n)
			if fits {
				if x == nil || e != api.OK {
					t.Fatal(size, n, x, e)
				}
				continue
			}
			if x != nil || e != api.ErrBad {
				t.Fatal(size, n, x, e)
			}
			if x, e := p.Put(page.Page{Tenant: 1, Number: n}); x == nil || e != api.OK {
				t.Fatal(x, e)
			}
			p.Touch(n, 5)
			for range 2 {
				if e := p.Flush(n); e != api.ErrBad {
					t.Fatal(e)
				}
				if e := p.FlushAll(); e != api.ErrBad {
					t.Fatal(e)
				}
			}
			if p.Clean(n) || p.Dirty()[n] != 5 {
				t.Fatal(p.Dirty())
			}
		}
	}
}

// A pool of no region, or of no disk: the disk's error is answered.
func TestNoRegion(t *testing.T) {
	d := disk.New(2, api.Region)
	for _, p := range []*Pool{New(d, -1, nil), New(d, 2, nil), New(d, math.MaxInt, nil), New(d, math.MinInt, nil), New(nil, 0, nil)} {
		for n := range pages {
			if x, e := p.Get(n); x != nil || e != api.ErrBad {
				t.Fatal(x, e)
			}
		}
		if e := p.FlushAll(); e != api.OK || slices.Max(p.Dirty()) > 0 {
			t.Fatal(e)
		}
	}
}

// If the lane fails, the page isn't written, even if it could be.
func TestLaneFails(t *testing.T) {
	d := disk.New(2, api.Region)
	l, e := lane.New(d, 0)
	if e != api.OK {
		t.Fatal(e)
	}
	g := &rig{t, d, 1, l, New(d, 1, l)}
	g.do("g0 g1 g2")
	since := g.touch(0)
	writes := d.Writes()
	d.Arm(0, 0)
	for _, call := range []func(*Pool) api.Errno{flushOf(0), flushAll, getOf(3), putOf(4)} {
		if e := call(g.p); e != api.ErrDown {
			t.Fatal(e)
		}
	}
	if d.Writes() != writes {
		t.Fatal("it was written")
	}
	g.wantDirty(since)
	g.wantAtHand(0, 1, 2)
}

// The pools of two regions know nothing of each other.
func TestTwoRegions(t *testing.T) {
	a := newRigIn(t, 2, 0)
	l, e := lane.New(a.d, 1)
	if e != api.OK {
		t.Fatal(e)
	}
	b := &rig{t, a.d, 1, l, New(a.d, 1, l)}
	a.do("g0 g1 g2")
	b.do("g2 g3 g4")
	mark := b.touch(2)
	a.d.Arm(0, 0)
	a.wantDirty()
	b.do("g5 a")
	b.wantRaw(2, page.Page{Mark: mark, Tenant: 1, Number: 2})
	a.wantRaw(2, page.Page{Number: 2})
	a.wantAtHand(0, 1, 2)
	b.wantAtHand(3, 4, 5)
}
