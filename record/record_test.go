package record

import (
	"bytes"
	"math"
	"slices"
	"strconv"
	"strings"
	"testing"

	"tenement/api"
)

// Sizes, counted by hand.
const (
	rowSize, imageSize, pages, shortest, longest = 40, 256, 6, 11, 395
)

// slotBytes, imageBytes: bytes of every value, so that none is taken for the end of a text.
func slotBytes(first byte) string { return counted(first, rowSize) }

func imageBytes(first byte) string { return counted(first, imageSize) }

func counted(first byte, n int) string {
	b := make([]byte, n)
	for i := range b {
		b[i] = first + byte(i)
	}
	return string(b)
}

// dirty is a mark's numbers, each byte of them another one.
func dirty() []uint64 {
	return []uint64{0, 0x0102030405060708, math.MaxUint64, 1 << 63, 258, 1<<20 + 1}
}

// full is a mark of all that a record may have.
func full() api.Record {
	return api.Record{Kind: 7, Txn: 255, Page: 5, Slot: 4, Before: slotBytes(1), After: slotBytes(200), Image: imageBytes(7), Dirty: dirty()}
}

// rights are records of every kind, each with and without each part that it may have.
func rights() []api.Record {
	var all []api.Record
	for kind := 1; kind <= 7; kind++ {
		for parts := range 16 {
			r := api.Record{Kind: kind, Txn: 37 * kind % 256, Page: parts % pages, Slot: (kind + parts) % 5}
			if parts&1 > 0 {
				r.Before = slotBytes(byte(parts))
			}
			if parts&2 > 0 {
				r.After = slotBytes(byte(100 + kind))
			}
			if parts&4 > 0 {
				r.Image = imageBytes(byte(kind))
			}
			if parts&8 > 0 {
				if kind != 7 {
					continue
				}
				r.Dirty = dirty()
			}
			all = append(all, r)
		}
	}
	for _, txn := range []int{0, 1, 127, 128, 255} {
		all = append(all, api.Record{Kind: 5, Txn: txn})
	}
	return append(all, full(), api.Record{Kind: 7, Dirty: make([]uint64, pages)},
		api.Record{Kind: 3, Before: strings.Repeat("\x00", rowSize), After: strings.Repeat("\xff", rowSize), Image: strings.Repeat("\x00", imageSize)})
}

// wrongs are no records: each has one thing wrong alone; name tells which.
func wrongs() map[string]api.Record {
	all := map[string]api.Record{"nothing": {}}
	put := func(name string, change func(*api.Record)) {
		r := full()
		change(&r)
		all[name] = r
	}
	put("kind 0", func(r *api.Record) { r.Kind, r.Dirty = 0, nil })
	put("kind 8", func(r *api.Record) { r.Kind, r.Dirty = 8, nil })
	put("kind 255", func(r *api.Record) { r.Kind, r.Dirty = 255, nil })
	put("kind 8 with dirty pages", func(r *api.Record) { r.Kind = 8 })
	put("page 6", func(r *api.Record) { r.Page = 6 })
	put("page 255", func(r *api.Record) { r.Page = 255 })
	put("slot 5", func(r *api.Record) { r.Slot = 5 })
	put("slot 255", func(r *api.Record) { r.Slot = 255 })
	for _, n := range []int{1, 2, 39, 41, 80, 255} {
		put("before of "+strconv.Itoa(n), func(r *api.Record) { r.Before = counted(1, n) })
		put("after of "+strconv.Itoa(n), func(r *api.Record) { r.After = counted(1, n) })
	}
	for _, n := range []int{1, 64, 255, 257, 512} {
		put("image of "+strconv.Itoa(n), func(r *api.Record) { r.Image = counted(1, n) })
	}
	for _, n := range []int{1, 5, 7, 12} {
		put("dirty of "+strconv.Itoa(n), func(r *api.Record) { r.Dirty = make([]uint64, n) })
	}
	for kind := 1; kind <= 6; kind++ {
		put("dirty of kind "+strconv.Itoa(kind), func(r *api.Record) { r.Kind = kind })
		put("5 dirty of kind "+strconv.Itoa(kind), func(r *api.Record) { r.Kind, r.Dirty = kind, make([]uint64, 5) })
	}
	return all
}

// unframable are no records, and of numbers that their bytes can't tell.
func unframable() []api.Record {
	var all []api.Record
	for _, n := range []int{math.MinInt, -256, -255, -1, 256, 257, 259, 1 << 32, math.MaxInt} {
		all = append(all, api.Record{Kind: n}, api.Record{Kind: 3, Txn: n}, api.Record{Kind: 3, Page: n}, api.Record{Kind: 3, Slot: n})
	}
	return append(all,
		api.Record{Kind: 3, Before: counted(0, 256+40)}, api.Record{Kind: 3, After: counted(0, 256+40)},
		api.Record{Kind: 3, Before: counted(0, 256)}, api.Record{Kind: 3, After: counted(0, 256)},
		api.Record{Kind: 3, Image: counted(0, 65536)}, api.Record{Kind: 3, Image: counted(0, 65536+256)},
		api.Record{Kind: 7, Dirty: make([]uint64, 256)}, api.Record{Kind: 7, Dirty: make([]uint64, 256+6)})
}

// byHand lays a frame byte by byte, of records that may not be as well, without the steps of what it checks.
func byHand(r api.Record) []byte {
	b := []byte{0, 0, byte(r.Kind), byte(r.Txn), byte(r.Page), byte(r.Slot)}
	b = append(append(b, byte(len(r.Before))), r.Before...)
	b = append(append(b, byte(len(r.After))), r.After...)
	b = append(append(b, byte(len(r.Image)/256), byte(len(r.Image)%256)), r.Image...)
	b = append(b, byte(len(r.Dirty)))
	for _, x := range r.Dirty {
		b = append(b, byte(x>>56), byte(x>>48), byte(x>>40), byte(x>>32), byte(x>>24), byte(x>>16), byte(x>>8), byte(x))
	}
	b[0], b[1] = byte((len(b)-2)/256), byte((len(b)-2)%256)
	return b
}

// equal compares records without what is checked here.
func equal(a, b api.Record) bool {
	if len(a.Dirty) != len(b.Dirty) {
		return false
	}
	for i := range a.Dirty {
		if a.Dirty[i] != b.Dirty[i] {
			return false
		}
	}
	return a.Kind == b.Kind && a.Txn == b.Txn && a.Page == b.Page && a.Slot == b.Slot && a.Before == b.Before && a.After == b.After && a.Image == b.Image
}

// wantRecord is a Decode that finds a record.
func wantRecord(t *testing.T, b []byte, want api.Record, size int) {
	t.Helper()
	if got, n, ok := Decode(b); !ok || n != size || !equal(got, want) {
		t.Errorf("Decode(%q) is %+v, %d, %v; want %+v, %d", b, got, n, ok, want, size)
	}
}

// wantNone is a Decode that finds no record; all that it answers is empty.
func wantNone(t *testing.T, name string, b []byte) {
	t.Helper()
	if got, n, ok := Decode(b); ok || n != 0 || !equal(got, api.Record{}) {
		t.Errorf("%s: Decode(%q) is %+v, %d, %v; want none", name, b, got, n, ok)
	}
}

func TestMost(t *testing.T) {
	if Most != longest {
		t.Errorf("Most is %d", Most)
	}
}

func TestRight(t *testing.T) {
	for _, r := range rights() {
		if !Right(r) {
			t.Errorf("%+v isn't right", r)
		}
	}
	for name, r := range wrongs() {
		if Right(r) {
			t.Errorf("%s: %+v is right", name, r)
		}
	}
	for _, r := range unframable() {
		if Right(r) {
			t.Errorf("%+v is right", r)
		}
	}
}

func TestRightAtTheEdges(t *testing.T) {
	for n := -3; n <= 300; n++ {
		if got, want := Right(api.Record{Kind: n}), n >= 1 && n <= 7; got != want {
			t.Errorf("kind %d: %v", n, got)
		}
		if got, want := Right(api.Record{Kind: 1, Txn: n}), n >= 0 && n <= 255; got != want {
			t.Errorf("transaction %d: %v", n, got)
		}
		if got, want := Right(api.Record{Kind: 2, Page: n}), n >= 0 && n <= 5; got != want {
			t.Errorf("page %d: %v", n, got)
		}
		if got, want := Right(api.Record{Kind: 3, Slot: n}), n >= 0 && n <= 4; got != want {
			t.Errorf("slot %d: %v", n, got)
		}
	}
	for n := range 600 {
		s := counted(9, n)
		if got, want := Right(api.Record{Kind: 3, Before: s}), n == 0 || n == 40; got != want {
			t.Errorf("before of %d: %v", n, got)
		}
		if got, want := Right(api.Record{Kind: 3, After: s}), n == 0 || n == 40; got != want {
			t.Errorf("after of %d: %v", n, got)
		}
		if got, want := Right(api.Record{Kind: 3, Image: s}), n == 0 || n == 256; got != want {
			t.Errorf("image of %d: %v", n, got)
		}
	}
	for kind := range 10 {
		for n := range 20 {
			want := kind >= 1 && kind <= 7 && n == 0 || kind == 7 && n == 6
			if got := Right(api.Record{Kind: kind, Dirty: make([]uint64, n)}); got != want {
				t.Errorf("kind %d with %d dirty pages: %v", kind, n, got)
			}
		}
	}
}

func TestEncodeKnown(t *testing.T) {
	for _, c := range []struct {
		r    api.Record
		want string
	}{
		{api.Record{Kind: 1}, "\x00\x09\x01\x00\x00\x00\x00\x00\x00\x00\x00"},
		{api.Record{Kind: 5, Txn: 255, Page: 5, Slot: 4, Dirty: []uint64{}}, "\x00\x09\x05\xff\x05\x04\x00\x00\x00\x00\x00"},
		{api.Record{Kind: 3, Txn: 2, Page: 3, Slot: 1, Before: strings.Repeat("b", 40)}, "\x00\x31\x03\x02\x03\x01\x28" + strings.Repeat("b", 40) + "\x00\x00\x00\x00"},
		{api.Record{Kind: 4, Txn: 1, After: strings.Repeat("\x00", 40)}, "\x00\x31\x04\x01\x00\x00\x00\x28" + strings.Repeat("\x00", 40) + "\x00\x00\x00"},
		{api.Record{Kind: 2, Image: strings.Repeat("i", 256)}, "\x01\x09\x02\x00\x00\x00\x00\x00\x01\x00" + strings.Repeat("i", 256) + "\x00"},
		{api.Record{Kind: 7, Txn: 1, Dirty: []uint64{0, 1, 258, 0x0102030405060708, math.MaxUint64, 0}},
			"\x00\x39\x07\x01\x00\x00\x00\x00\x00\x00\x06" +
				"\x00\x00\x00\x00\x00\x00\x00\x00" + "\x00\x00\x00\x00\x00\x00\x00\x01" + "\x00\x00\x00\x00\x00\x00\x01\x02" +
				"\x01\x02\x03\x04\x05\x06\x07\x08" + "\xff\xff\xff\xff\xff\xff\xff\xff" + "\x00\x00\x00\x00\x00\x00\x00\x00"},
	} {
		if got := string(Encode(c.r)); got != c.want {
			t.Errorf("Encode(%+v) is %q, want %q", c.r, got, c.want)
		}
	}
}

func TestEncodeSizes(t *testing.T) {
	if got := len(Encode(api.Record{Kind: 1})); got != shortest {
		t.Errorf("the frame of a Check has %d bytes", got)
	}
	if got := len(Encode(full())); got != longest {
		t.Errorf("the longest frame has %d bytes", got)
	}
	for _, r := range rights() {
		if got := len(Encode(r)); got < shortest || got > longest {
			t.Errorf("the frame of %+v has %d bytes", r, got)
		}
	}
}

func TestEncodeLaysEachPartAtItsPlace(t *testing.T) {
	for _, r := range rights() {
		if got, want := Encode(r), byHand(r); !bytes.Equal(got, want) {
			t.Errorf("Encode(%+v) is %q, want %q", r, got, want)
		}
	}
}

// What the document doesn't say to be valid has no promised frame, but must end.
func TestEncodeOfWrongOnesEnds(t *testing.T) {
	for _, r := range wrongs() {
		Encode(r)
	}
	for _, r := range unframable() {
		Encode(r)
	}
}

func TestRecordsComeBack(t *testing.T) {
	for _, r := range rights() {
		b := byHand(r)
		wantRecord(t, b, r, len(b))
		wantRecord(t, Encode(r), r, len(b))
	}
}

func TestNothingDirtyComesBackEmpty(t *testing.T) {
	for _, dirty := range [][]uint64{nil, {}} {
		if got, _, ok := Decode(Encode(api.Record{Kind: 7, Dirty: dirty})); !ok || len(got.Dirty) != 0 {
			t.Errorf("%+v, %v", got, ok)
		}
	}
}

func TestBytesBehindDoNotCount(t *testing.T) {
	for _, behind := range []string{"\x00", "\x01", "\xff", "\x00\x09\x01", "a text that is longer than a short frame", strings.Repeat("\xff", 70000)} {
		for _, r := range rights() {
			b := byHand(r)
			wantRecord(t, append(bytes.Clone(b), behind...), r, len(b))
		}
	}
}

func TestFramesBehindEachOther(t *testing.T) {
	var b []byte
	for _, r := range rights() {
		b = append(b, Encode(r)...)
	}
	for _, want := range rights() {
		got, n, ok := Decode(b)
		if !ok || !equal(got, want) || n != len(byHand(want)) {
			t.Fatalf("Decode is %+v, %d, %v; want %+v", got, n, ok, want)
		}
		b = b[n:]
	}
	wantNone(t, "behind the last one", b)
	if len(b) != 0 {
		t.Errorf("%d bytes are left", len(b))
	}
}

func TestBytesThatEndAheadOfTheFrame(t *testing.T) {
	wantNone(t, "nil", nil)
	for _, r := range rights() {
		b := byHand(r)
		for n := range b {
			wantNone(t, "cut", bytes.Clone(b[:n]))
			wantNone(t, "cut, with the rest behind it in memory", b[:n])
		}
	}
}

func TestALengthThatIsNotTheFrames(t *testing.T) {
	for _, r := range []api.Record{{Kind: 1}, {Kind: 3, Txn: 1, Before: slotBytes(3), Image: imageBytes(0)}, {Kind: 7, Dirty: dirty()}, full()} {
		b := byHand(r)
		long := append(bytes.Clone(b), make([]byte, 1000)...)
		for n := range 1 << 16 {
			if n == len(b)-2 {
				continue
			}
			long[0], long[1] = byte(n/256), byte(n%256)
			if _, size, ok := Decode(long); ok || size != 0 {
				t.Errorf("a length of %d instead of %d is taken", n, len(b)-2)
			}
			if _, size, ok := Decode(long[:len(b)]); ok || size != 0 {
				t.Errorf("a length of %d instead of %d is taken, with nothing behind", n, len(b)-2)
			}
		}
	}
}

// A frame ends with what it says: nothing stands behind that within its length.
func TestBytesBehindWithinTheLength(t *testing.T) {
	for _, r := range rights() {
		for _, behind := range []string{"\x00", "\x01", "\x00\x00\x00\x00\x00\x00\x00\x00", "\x00\x09"} {
			b := append(byHand(r), behind...)
			b[0], b[1] = byte((len(b)-2)/256), byte((len(b)-2)%256)
			wantNone(t, "bytes behind", b)
		}
	}
}

func TestFramesOfWrongOnes(t *testing.T) {
	for name, r := range wrongs() {
		wantNone(t, name, byHand(r))
		wantNone(t, name+", with bytes behind", append(byHand(r), make([]byte, 500)...))
	}
}

// The parts' own lengths: of each, all that one or two bytes can tell, the bytes being there and not.
func TestLengthsOfParts(t *testing.T) {
	for n := range 256 {
		for _, r := range []api.Record{
			{Kind: 3, Before: counted(1, n)}, {Kind: 3, After: counted(1, n)},
			{Kind: 3, Image: counted(1, 2*n)}, {Kind: 3, Image: counted(1, 2*n+1)},
			{Kind: 7, Dirty: make([]uint64, n)}, {Kind: 6, Dirty: make([]uint64, n)},
		} {
			b := byHand(r)
			if Right(r) {
				wantRecord(t, b, r, len(b))
			} else {
				wantNone(t, "a part's length", b)
			}
		}
	}
	b := byHand(api.Record{Kind: 3})
	for place := 6; place < len(b); place++ {
		for x := 1; x < 256; x++ {
			one := bytes.Clone(b)
			one[place] = byte(x)
			wantNone(t, "a part's length alone", one)
		}
	}
}

// Whatever one byte is changed to: what is found has that very frame, and what is not found has no frame there.
func TestEveryOtherByte(t *testing.T) {
	for _, r := range []api.Record{{Kind: 1}, {Kind: 3, Txn: 9, Page: 2, Slot: 3, Before: slotBytes(0), After: slotBytes(77)}, {Kind: 7, Dirty: dirty()}, full()} {
		whole := byHand(r)
		for place := range whole {
			for x := range 256 {
				b := bytes.Clone(whole)
				b[place] = byte(x)
				want, right := changed(r, place, byte(x))
				if right {
					wantRecord(t, b, want, len(b))
				} else {
					wantNone(t, "another byte", b)
				}
			}
		}
	}
}

// changed tells what record a frame has in which one byte is another, and whether it may be.
func changed(r api.Record, place int, x byte) (api.Record, bool) {
	whole := byHand(r)
	if whole[place] == x {
		return r, true
	}
	before := 7
	after := before + len(r.Before) + 1
	image := after + len(r.After) + 2
	dirty := image + len(r.Image) + 1
	switch {
	case place < 2 || place == before-1 || place == after-1 || place == image-2 || place == image-1 || place == dirty-1:
		return r, false
	case place == 2:
		r.Kind = int(x)
		return r, x >= 1 && x <= 7 && len(r.Dirty) == 0
	case place == 3:
		r.Txn = int(x)
	case place == 4:
		r.Page = int(x)
		return r, x <= 5
	case place == 5:
		r.Slot = int(x)
		return r, x <= 4
	case place < after-1:
		r.Before = replaced(r.Before, place-before, x)
	case place < image-2:
		r.After = replaced(r.After, place-after, x)
	case place < dirty-1:
		r.Image = replaced(r.Image, place-image, x)
	default:
		r.Dirty = slices.Clone(r.Dirty)
		at := (place - dirty) / 8
		shift := 56 - 8*((place-dirty)%8)
		r.Dirty[at] = r.Dirty[at]&^(255<<shift) | uint64(x)<<shift
	}
	return r, true
}

func replaced(s string, place int, x byte) string {
	b := []byte(s)
	b[place] = x
	return string(b)
}

// Bytes that tell nothing: whatever they are, Decode ends, and finds a record only where its frame is.
func TestAnyBytes(t *testing.T) {
	state := uint32(1)
	for range 20000 {
		b := make([]byte, state>>8%64)
		for i := range b {
			state = state*1664525 + 1013904223
			b[i] = byte(state >> 24 % 12)
		}
		state = state*1664525 + 1013904223
		got, n, ok := Decode(b)
		if ok && (!Right(got) || n > len(b) || !bytes.Equal(byHand(got), b[:n])) || !ok && (n != 0 || !equal(got, api.Record{})) {
			t.Errorf("Decode(%q) is %+v, %d, %v", b, got, n, ok)
		}
	}
	for x := range 256 {
		wantNone(t, "one byte alone", bytes.Repeat([]byte{byte(x)}, 400))
	}
}

func TestSame(t *testing.T) {
	all := rights()
	for i, a := range all {
		for k, b := range all {
			if got := Same(a, b); got != (i == k || equal(a, b)) {
				t.Errorf("Same(%+v, %+v) is %v", a, b, got)
			}
		}
	}
}

func TestSameOfEachPart(t *testing.T) {
	for name, change := range map[string]func(*api.Record){
		"kind":              func(r *api.Record) { r.Kind = 6 },
		"kind far off":      func(r *api.Record) { r.Kind += 256 },
		"transaction":       func(r *api.Record) { r.Txn = 254 },
		"transaction + 256": func(r *api.Record) { r.Txn += 256 },
		"page":              func(r *api.Record) { r.Page = 0 },
		"slot":              func(r *api.Record) { r.Slot = -1 },
		"before":            func(r *api.Record) { r.Before = replaced(r.Before, 39, 0) },
		"no before":         func(r *api.Record) { r.Before = "" },
		"after":             func(r *api.Record) { r.After = replaced(r.After, 0, 0) },
		"no after":          func(r *api.Record) { r.After = "" },
		"both exchanged":    func(r *api.Record) { r.Before, r.After = r.After, r.Before },
		"image":             func(r *api.Record) { r.Image = replaced(r.Image, 255, 0) },
		"no image":          func(r *api.Record) { r.Image = "" },
		"first dirty":       func(r *api.Record) { r.Dirty[0]++ },
		"last dirty":        func(r *api.Record) { r.Dirty[5]-- },
		"fewer dirty":       func(r *api.Record) { r.Dirty = r.Dirty[:5] },
		"more dirty":        func(r *api.Record) { r.Dirty = append(r.Dirty, 0) },
		"none dirty":        func(r *api.Record) { r.Dirty = nil },
		"dirty exchanged":   func(r *api.Record) { r.Dirty[0], r.Dirty[1] = r.Dirty[1], r.Dirty[0] },
	} {
		a, b := full(), full()
		if !Same(a, b) {
			t.Error("a record isn't the same as its like")
		}
		change(&b)
		if Same(a, b) || Same(b, a) {
			t.Errorf("%s: the same", name)
		}
		c := full()
		change(&c)
		if !Same(b, c) {
			t.Errorf("%s: changed alike, and not the same", name)
		}
	}
}

func TestSameWithNothingDirty(t *testing.T) {
	for _, kind := range []int{0, 3, 7, 8} {
		a, b := api.Record{Kind: kind}, api.Record{Kind: kind, Dirty: []uint64{}}
		if !Same(a, b) || !Same(b, a) || !Same(a, a) || !Same(b, b) {
			t.Errorf("kind %d: an empty Dirty and none aren't the same", kind)
		}
		if c := (api.Record{Kind: kind, Dirty: make([]uint64, 6)}); Same(a, c) || Same(c, b) {
			t.Errorf("kind %d: six zeros and none are the same", kind)
		}
	}
}

func TestNothingGivenIsChanged(t *testing.T) {
	room := append(dirty(), 11, 12)
	r := full()
	r.Dirty = room[:pages]
	Encode(r)
	Right(r)
	Same(r, r)
	if !slices.Equal(room, append(dirty(), 11, 12)) || !equal(r, full()) {
		t.Errorf("what was given is now %+v", r)
	}
	whole := append(byHand(full()), "behind"...)
	kept := bytes.Clone(whole)
	for n := range whole {
		Decode(whole[:n])
	}
	Decode(whole)
	if !bytes.Equal(whole, kept) {
		t.Errorf("the bytes given are now %q", whole)
	}
}

func TestAnswersAreNew(t *testing.T) {
	b := byHand(full())
	one, _, _ := Decode(b)
	two, _, _ := Decode(b)
	clear(b)
	if !equal(one, full()) || !equal(two, full()) {
		t.Error("a record changes with the bytes that it was read from")
	}
	clear(one.Dirty)
	if !equal(two, full()) {
		t.Error("two records share their dirty pages")
	}
	r := full()
	first, second := Encode(r), Encode(r)
	clear(r.Dirty)
	clear(second)
	if !bytes.Equal(first, byHand(full())) {
		t.Error("a frame changes with its record, or with another frame")
	}
}
