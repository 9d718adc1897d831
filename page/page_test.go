package page

import (
	"bytes"
	"math"
	"slices"
	"strings"
	"testing"

	"tenement/api"
	"tenement/row"
)

// Sizes and places, counted by hand.
const (
	slots, size, sectorSize, markSize = 5, 256, 64, 8
)

// encodingOf is the slot of a row, as a text.
func encodingOf(r api.Row) string { return string(row.Encode(r)) }

var (
	rowA = api.Row{Table: 0, Key: "a", Value: "first"}
	rowB = api.Row{Table: 3, Key: "0123456789abcde", Value: "0123456789abcdefghijk"}
	rowC = api.Row{}
	rowD = api.Row{Table: 2, Key: "\x00\xff", Value: "\xff\x00"}
	rowE = api.Row{Table: 3, Key: strings.Repeat("\xff", 15), Value: strings.Repeat("\xff", 21)}
)

// all are as many rows as a page has slots.
func all() []api.Row { return []api.Row{rowA, rowB, rowC, rowD, rowE} }

// filledBy is a page whose slots of the bits of mask are filled, with the rows from one of them on.
func filledBy(t *testing.T, p Page, mask, first int) Page {
	t.Helper()
	for i := range slots {
		if mask>>i&1 == 1 && !p.Set(i, encodingOf(all()[(i+first)%slots])) {
			t.Fatalf("slot %d doesn't take a row", i)
		}
	}
	return p
}

// byHand lays a page at fixed places, without the steps of what it checks.
func byHand(p Page) []byte {
	b := make([]byte, size)
	if p.Mark == 0 {
		return b
	}
	said := make([]byte, 4*56)
	said[0], said[1] = byte(p.Tenant>>8), byte(p.Tenant)
	said[2], said[3] = byte(p.Number>>8), byte(p.Number)
	for i := range slots {
		copy(said[4+40*i:], p.Slot(i))
	}
	for k := range 4 {
		for i := range markSize {
			b[sectorSize*k+i] = byte(p.Mark >> (56 - 8*i))
		}
		copy(b[sectorSize*k+markSize:sectorSize*(k+1)], said[56*k:56*(k+1)])
	}
	return b
}

// placeOf is where a byte of what the sectors say together stands in the encoding.
func placeOf(said int) int { return said/56*sectorSize + markSize + said%56 }

// wantPage holds what Decode answers against what it should.
func wantPage(t *testing.T, b []byte, tenant, number int, want Page) {
	t.Helper()
	if got, e := Decode(b, tenant, number); got != want || e != api.OK {
		t.Errorf("Decode(%q, %d, %d) is %+v, %v; want %+v", b, tenant, number, got, e, want)
	}
}

// wantTorn is a Decode that finds no such page.
func wantTorn(t *testing.T, b []byte, tenant, number int) {
	t.Helper()
	if got, e := Decode(b, tenant, number); got != (Page{}) || e != api.ErrTorn {
		t.Errorf("Decode(%q, %d, %d) is %+v, %v; want ErrTorn", b, tenant, number, got, e)
	}
}

func TestSetAndSlot(t *testing.T) {
	p := &Page{Mark: 7, Tenant: 1, Number: 2}
	for i := range slots {
		if got := p.Slot(i); got != "" {
			t.Errorf("slot %d of a new page has %q", i, got)
		}
	}
	for i, r := range all() {
		if !p.Set(i, encodingOf(r)) {
			t.Errorf("slot %d doesn't take %+v", i, r)
		}
	}
	for i, r := range all() {
		if got := p.Slot(i); got != encodingOf(r) {
			t.Errorf("slot %d has %q, want that of %+v", i, got, r)
		}
	}
	if !p.Set(2, encodingOf(rowA)) || p.Slot(2) != encodingOf(rowA) || p.Slot(1) != encodingOf(rowB) || p.Slot(3) != encodingOf(rowD) {
		t.Error("a filled slot isn't set anew, or others with it")
	}
	if !p.Set(2, "") || p.Slot(2) != "" || p.Slot(1) != encodingOf(rowB) || p.Slot(3) != encodingOf(rowD) {
		t.Error("a slot isn't freed, or others with it")
	}
	if !p.Set(2, "") || p.Slot(2) != "" {
		t.Error("a free slot isn't freed again")
	}
	if p.Mark != 7 || p.Tenant != 1 || p.Number != 2 {
		t.Errorf("Set changes what isn't a slot: %+v", p)
	}
}

func TestNoSuchSlot(t *testing.T) {
	p := filledBy(t, Page{Mark: 1}, 31, 0)
	kept := p
	for _, i := range []int{-1, 5, 6, 255, 256, -5, 1 << 32, math.MinInt, math.MaxInt} {
		if got := p.Slot(i); got != "" {
			t.Errorf("Slot(%d) is %q", i, got)
		}
		if p.Set(i, encodingOf(rowA)) || p.Set(i, "") || p.Set(i, "x") {
			t.Errorf("Set(%d) is true", i)
		}
	}
	if p != kept {
		t.Errorf("the page is changed: %+v", p)
	}
}

// noRows are bytes that are neither none nor a row's.
func noRows() []string {
	good := encodingOf(api.Row{Table: 2, Key: "ab", Value: "xyz"})
	with := func(at int, x byte) string {
		b := []byte(good)
		b[at] = x
		return string(b)
	}
	return []string{
		"x", "\x00", "\x01", good[:39], good[1:], good + "\x00", "\x00" + good, good + good,
		strings.Repeat("\x00", 39), strings.Repeat("\x00", 40), strings.Repeat("\x00", 41), strings.Repeat("\x01", 40), strings.Repeat("\xff", 40),
		with(0, 0), with(0, 2), with(1, 4), with(1, 255), with(2, 16), with(2, 1), with(5, 1), with(17, 9), with(18, 22), with(18, 2), with(22, 1), with(39, 1),
		strings.Repeat("k", 70000),
	}
}

func TestSetOfNoRow(t *testing.T) {
	p := filledBy(t, Page{Mark: 1, Tenant: 2, Number: 3}, 0b01011, 0)
	kept := p
	for _, s := range noRows() {
		for i := range slots {
			if p.Set(i, s) || p != kept {
				t.Fatalf("Set(%d, %q) is true, or leaves %+v", i, s, p)
			}
		}
	}
}

func TestFree(t *testing.T) {
	for mask := range 32 {
		p := filledBy(t, Page{Mark: 1}, mask, 0)
		for but := range 32 {
			var list []int
			want := -1
			for i := slots - 1; i >= 0; i-- {
				if but>>i&1 == 1 {
					list = append(list, i)
				} else if mask>>i&1 == 0 {
					want = i
				}
			}
			if got := p.Free(list...); got != want {
				t.Errorf("Free(%v) with the slots %05b is %d, want %d", list, mask, got, want)
			}
			slices.Sort(list)
			if got := p.Free(list...); got != want {
				t.Errorf("Free(%v) with the slots %05b is %d, want %d", list, mask, got, want)
			}
		}
	}
}

func TestFreeButAnyNumbers(t *testing.T) {
	var p Page
	for _, c := range []struct {
		but  []int
		want int
	}{
		{nil, 0},
		{[]int{}, 0},
		{[]int{-1, 5, 6, math.MinInt, math.MaxInt, 1 << 32, 256}, 0},
		{[]int{0, 0, 0}, 1},
		{[]int{1, 0, -1, 0, 1}, 2},
		{[]int{4, 9, 3, 2, 1, 0}, -1},
		{[]int{4, 3, 2, 1}, 0},
		{[]int{0, 1, 2, 3}, 4},
		{[]int{0, 1, 2, 3, -4}, 4},
	} {
		given := slices.Clone(c.but)
		if got := p.Free(given...); got != c.want || !slices.Equal(given, c.but) || p != (Page{}) {
			t.Errorf("Free(%v) is %d, want %d (afterwards %v, %+v)", c.but, got, c.want, given, p)
		}
	}
}

func TestFreeAsTold(t *testing.T) {
	var p Page
	if !p.Set(0, encodingOf(rowA)) || p.Free() != 1 || p.Free(1) != 2 {
		t.Errorf("Free() is %d, Free(1) %d", p.Free(), p.Free(1))
	}
	if !p.Set(0, "") || p.Free() != 0 {
		t.Errorf("with a slot freed again Free() is %d", p.Free())
	}
}

// A numbered row is what Rows yields at once.
type numbered struct {
	slot int
	row  api.Row
}

// gone goes over the rows of a page, up to so many.
func gone(p *Page, most int) []numbered {
	var l []numbered
	p.Rows(func(i int, r api.Row) bool {
		l = append(l, numbered{i, r})
		return len(l) < most
	})
	return l
}

func TestRows(t *testing.T) {
	for mask := range 32 {
		for first := range slots {
			p := filledBy(t, Page{Mark: 1, Number: 4}, mask, first)
			kept := p
			var want []numbered
			for i := range slots {
				if mask>>i&1 == 1 {
					want = append(want, numbered{i, all()[(i+first)%slots]})
				}
			}
			// Once yield has said false it isn't asked again.
			for most := 1; most < 7; most++ {
				if got := gone(&p, most); !slices.Equal(got, want[:min(most, len(want))]) || p != kept {
					t.Errorf("%d rows of the slots %05b: %v, want %v", most, mask, got, want)
				}
			}
		}
	}
}

func TestRowsInALoop(t *testing.T) {
	p := filledBy(t, Page{}, 0b11010, 0)
	var seen []int
	for i, r := range p.Rows {
		if r != all()[i] {
			t.Errorf("slot %d has %+v", i, r)
		}
		seen = append(seen, i)
		if i == 3 {
			break
		}
	}
	if !slices.Equal(seen, []int{1, 3}) {
		t.Errorf("went over %v", seen)
	}
	for i := range p.Rows {
		p.Set(i, "")
	}
	if p != (Page{}) {
		t.Errorf("slots that are freed on the way: %+v is left", p)
	}
}

func TestNilPage(t *testing.T) {
	var p *Page
	for _, i := range []int{-1, 0, 4, 5, math.MinInt, math.MaxInt} {
		if p.Slot(i) != "" || p.Set(i, "") || p.Set(i, encodingOf(rowA)) || p.Set(i, "x") {
			t.Errorf("a nil page has a slot %d", i)
		}
		if got := p.Free(i); got != -1 {
			t.Errorf("Free(%d) of a nil page is %d", i, got)
		}
	}
	if got := p.Free(); got != -1 {
		t.Errorf("Free() of a nil page is %d", got)
	}
	p.Rows(func(i int, r api.Row) bool { t.Errorf("a nil page yields %d, %+v", i, r); return true })
	p.Rows(nil)
	filled := filledBy(t, Page{}, 31, 0)
	filled.Rows(nil)
}

func TestEncodeKnown(t *testing.T) {
	zeros := func(n int) string { return strings.Repeat("\x00", n) }
	const mark = "\x01\x02\x03\x04\x05\x06\x07\x08"
	p := Page{Mark: 0x0102030405060708, Tenant: 258, Number: 772}
	if !p.Set(1, encodingOf(rowB)) || !p.Set(4, encodingOf(rowC)) {
		t.Fatal("no rows")
	}
	b := encodingOf(rowB)
	want := mark + "\x01\x02\x03\x04" + zeros(40) + b[:12] + mark + b[12:] + zeros(28) + mark + zeros(52) + "\x01" + zeros(3) + mark + zeros(56)
	if got := Encode(p); string(got) != want {
		t.Errorf("Encode is\n%q, want\n%q", got, want)
	}
	wantPage(t, []byte(want), 258, 772, p)
}

// pages are some with many marks, tenants and numbers, and with all choices of slots.
func pages(t *testing.T) []Page {
	var l []Page
	for i, mark := range []uint64{1, 9, 255, 256, 1 << 31, 1 << 32, 1<<63 - 1, 1 << 63, math.MaxUint64} {
		for mask := range 32 {
			l = append(l, filledBy(t, Page{Mark: mark, Tenant: i % 4, Number: (i + mask) % 6}, mask, i%slots))
		}
	}
	for _, n := range []int{0, 1, 255, 256, 257, 32767, 32768, 65534, 65535} {
		for _, m := range []int{0, 1, 255, 256, 65535} {
			l = append(l, Page{Mark: 5, Tenant: n, Number: m}, filledBy(t, Page{Mark: 5, Tenant: m, Number: n}, 31, 1))
		}
	}
	return l
}

func TestPagesComeBack(t *testing.T) {
	for _, p := range pages(t) {
		b := Encode(p)
		if !bytes.Equal(b, byHand(p)) {
			t.Fatalf("Encode(%+v) is %q, want %q", p, b, byHand(p))
		}
		wantPage(t, b, p.Tenant, p.Number, p)
	}
}

func TestAnotherTenantOrNumber(t *testing.T) {
	for _, p := range []Page{{Mark: 1}, {Mark: 1, Tenant: 3, Number: 5}, filledBy(t, Page{Mark: 1, Tenant: 65535, Number: 65535}, 31, 0), {Mark: 1, Tenant: 256, Number: 1}} {
		b := Encode(p)
		wantPage(t, b, p.Tenant, p.Number, p)
		for _, n := range []int{0, 1, 2, 3, 4, 5, 6, 255, 256, 65534, 65535} {
			if n != p.Tenant {
				wantTorn(t, b, n, p.Number)
			}
			if n != p.Number {
				wantTorn(t, b, p.Tenant, n)
			}
			if n != p.Number || n != p.Tenant {
				wantTorn(t, b, n, n)
			}
		}
		if p.Tenant != p.Number {
			wantTorn(t, b, p.Number, p.Tenant)
		}
		// No page has such a tenant or number, though its lowest bytes are the same.
		for _, far := range []int{-65536, 65536, 1 << 32, math.MinInt} {
			wantTorn(t, b, p.Tenant+far, p.Number)
			wantTorn(t, b, p.Tenant, p.Number+far)
		}
	}
}

func TestMarkZero(t *testing.T) {
	zeros := make([]byte, size)
	for _, p := range []Page{{}, {Tenant: 3, Number: 5}, {Tenant: 65535, Number: 65535}, filledBy(t, Page{Tenant: 1, Number: 2}, 31, 0)} {
		if got := Encode(p); !bytes.Equal(got, zeros) {
			t.Errorf("Encode(%+v) is %q", p, got)
		}
	}
	for _, n := range []int{0, 1, 3, 5, 255, 65535} {
		for _, m := range []int{0, 1, 3, 5, 256, 65535} {
			wantPage(t, zeros, n, m, Page{Tenant: n, Number: m})
		}
	}
}

func TestDecodeOfNoSize(t *testing.T) {
	p := filledBy(t, Page{Mark: 9, Tenant: 1, Number: 2}, 31, 0)
	sparse := Page{Mark: 9, Tenant: 1, Number: 2}
	wantTorn(t, nil, 0, 0)
	for n := range 1100 {
		if n == size {
			continue
		}
		wantTorn(t, make([]byte, n), 0, 0)
		wantTorn(t, make([]byte, n), 1, 2)
		for _, b := range [][]byte{Encode(p), Encode(sparse)} {
			if n < size {
				wantTorn(t, b[:n], 1, 2)
				wantTorn(t, b[size-n:], 1, 2)
			} else {
				wantTorn(t, append(b, make([]byte, n-size)...), 1, 2)
				wantTorn(t, append(make([]byte, n-size), b...), 1, 2)
			}
		}
	}
	wantTorn(t, append(Encode(p), Encode(p)...), 1, 2)
}

// Bytes of a slot that are neither zeros nor a row's make no page, and so do bytes behind the slots.
func TestDecodeOfNoRow(t *testing.T) {
	for _, s := range noRows() {
		if len(s) != 40 || s == strings.Repeat("\x00", 40) {
			continue
		}
		for i := range slots {
			b := Encode(filledBy(t, Page{Mark: 9, Tenant: 1, Number: 2}, 0b10101, 0))
			for j := range len(s) {
				b[placeOf(4+40*i+j)] = s[j]
			}
			wantTorn(t, b, 1, 2)
		}
	}
	for at := 4 + 40*slots; at < 4*56; at++ {
		b := Encode(filledBy(t, Page{Mark: 9, Tenant: 1, Number: 2}, 31, 0))
		b[placeOf(at)] = 1
		wantTorn(t, b, 1, 2)
	}
}

// decodeByHand is Decode as the document tells it, part by part at fixed places.
func decodeByHand(b []byte, tenant, number int) (Page, api.Errno) {
	if bytes.Equal(b, make([]byte, size)) {
		return Page{Tenant: tenant, Number: number}, api.OK
	}
	var said []byte
	for k := range 4 {
		if !bytes.Equal(b[sectorSize*k:][:markSize], b[:markSize]) {
			return Page{}, api.ErrTorn
		}
		said = append(said, b[sectorSize*k+markSize:sectorSize*(k+1)]...)
	}
	var p Page
	for i := range markSize {
		p.Mark = p.Mark*256 + uint64(b[i])
	}
	p.Tenant, p.Number = int(said[0])*256+int(said[1]), int(said[2])*256+int(said[3])
	if p.Mark == 0 || p.Tenant != tenant || p.Number != number || len(bytes.Trim(said[204:], "\x00")) > 0 {
		return Page{}, api.ErrTorn
	}
	for i := range slots {
		slot := said[4+40*i : 44+40*i]
		if _, e := row.Decode(slot); e == api.ErrForm || e == api.OK && !p.Set(i, string(slot)) {
			return Page{}, api.ErrTorn
		}
	}
	return p, api.OK
}

func TestDecodeEveryByteElse(t *testing.T) {
	for _, p := range []Page{
		{},
		{Mark: 9, Tenant: 1, Number: 2},
		filledBy(t, Page{Mark: 1, Tenant: 3, Number: 5}, 31, 0),
		filledBy(t, Page{Mark: 1 << 40, Tenant: 256, Number: 0}, 0b01101, 2),
	} {
		right, whole := 0, Encode(p)
		for at := range size {
			for x := range 256 {
				b := bytes.Clone(whole)
				b[at] = byte(x)
				want, err := decodeByHand(b, p.Tenant, p.Number)
				if got, e := Decode(b, p.Tenant, p.Number); got != want || e != err {
					t.Errorf("byte %d of %+v is %d: %+v, %v; want %+v, %v", at, p, x, got, e, want, err)
				}
				if err == api.OK {
					right++
				}
			}
		}
		if right < size {
			t.Errorf("%+v: only %d were right", p, right)
		}
	}
}

// mixed has the sectors of mask from a page's bytes, the others from another one's.
func mixed(a, b []byte, mask int) []byte {
	var m []byte
	for k := range 4 {
		from := a
		if mask>>k&1 == 1 {
			from = b
		}
		m = append(m, from[sectorSize*k:sectorSize*(k+1)]...)
	}
	return m
}

func TestMixedPagesAreTorn(t *testing.T) {
	marks := []uint64{0, 1, 2, 255, 256, 257, 1 << 32, 1<<32 + 1, 1 << 56, 1 << 63, math.MaxUint64 - 1, math.MaxUint64}
	for _, first := range []int{0, 31, 0b00110, 0b11000} {
		for _, second := range []int{0, 31, 0b10011} {
			for _, m := range marks {
				for _, n := range marks {
					if m == n {
						continue
					}
					a := Encode(filledBy(t, Page{Mark: m, Tenant: 1, Number: 2}, first, 0))
					b := Encode(filledBy(t, Page{Mark: n, Tenant: 1, Number: 2}, second, 0))
					for mask := 1; mask < 15; mask++ {
						wantTorn(t, mixed(a, b, mask), 1, 2)
					}
				}
			}
		}
	}
}

// A page that says nothing but its mark and whose it is tells it in its first sector alone: the other ones too must have the mark.
func TestLostSectorsAreTorn(t *testing.T) {
	for _, p := range []Page{{Mark: 1}, {Mark: 1, Tenant: 3, Number: 5}, filledBy(t, Page{Mark: 1, Tenant: 3, Number: 5}, 1, 0)} {
		for mask := 1; mask < 15; mask++ {
			wantTorn(t, mixed(Encode(p), make([]byte, size), mask), p.Tenant, p.Number)
		}
	}
}

func TestEncodeEndsForAnyPage(t *testing.T) {
	for _, n := range []int{-1, 65536, math.MinInt, math.MaxInt} {
		for _, p := range []Page{{Mark: 1, Tenant: n}, {Mark: 1, Number: n}, {Tenant: n, Number: n}} {
			if got := Encode(p); len(got) != size {
				t.Errorf("Encode(%+v) has %d bytes", p, len(got))
			}
			Decode(Encode(p), n, n)
			Decode(make([]byte, size), n, n)
		}
	}
}

func TestAnswersAreNew(t *testing.T) {
	for _, p := range []Page{{}, filledBy(t, Page{Mark: 9, Tenant: 1, Number: 2}, 31, 0)} {
		one, two := Encode(p), Encode(p)
		clear(one[:cap(one)])
		for i := range one {
			one[i] = 7
		}
		if !bytes.Equal(two, byHand(p)) || !bytes.Equal(Encode(p), byHand(p)) {
			t.Error("what is written into an answer changes another one")
		}
	}
}

func TestArgumentsStay(t *testing.T) {
	p := filledBy(t, Page{Mark: 9, Tenant: 1, Number: 2}, 31, 0)
	kept := p
	whole := append(Encode(p), "behind"...)
	before := bytes.Clone(whole)
	got, e := Decode(whole[:size], 1, 2)
	if got != p || e != api.OK || !bytes.Equal(whole, before) {
		t.Errorf("%+v, %v; the bytes are now %q", got, e, whole)
	}
	clear(whole)
	if got != kept || p != kept {
		t.Errorf("the page changes with the bytes: %+v", got)
	}
	got.Set(0, "")
	if p != kept {
		t.Error("a page that was decoded shares its slots with another one")
	}
	other := p
	other.Set(0, "")
	if p != kept || other.Slot(0) != "" {
		t.Error("a copy of a page shares its slots with it")
	}
}
