package sum

import (
	"bytes"
	"hash/crc32"
	"slices"
	"strings"
	"testing"
)

// longDivision is the definition of IEEE 802.3 done by hand, on single bits and with the polynomial the usual way
// round, so that it shares neither a step nor a constant with what it checks.
func longDivision(text []byte) uint32 {
	const degree = 32
	divisor := []int{32, 26, 23, 22, 16, 12, 11, 10, 8, 7, 5, 4, 2, 1, 0}
	var bits []byte
	for _, b := range text {
		for i := range 8 {
			bits = append(bits, b>>i&1)
		}
	}
	bits = append(bits, make([]byte, degree)...)
	for i := range degree {
		bits[i] ^= 1
	}
	for i := range len(bits) - degree {
		if bits[i] == 1 {
			for _, power := range divisor {
				bits[i+degree-power] ^= 1
			}
		}
	}
	var sum uint32
	for i, bit := range bits[len(bits)-degree:] {
		sum |= uint32(bit^1) << i
	}
	return sum
}

// texts are of many lengths and have every byte among them.
func texts() [][]byte {
	all := make([]byte, 256)
	for i := range all {
		all[i] = byte(i)
	}
	l := [][]byte{
		nil,
		[]byte("a"),
		[]byte("123456789"),
		[]byte("tenement"),
		[]byte("Straße \x00\x01\xfe\xff"),
		make([]byte, 40),
		bytes.Repeat([]byte{0xff}, 40),
		all,
		[]byte(strings.Repeat("The quick brown fox jumps over the lazy dog. ", 23)),
	}
	for _, b := range all {
		l = append(l, []byte{b})
	}
	for i := range 70 {
		l = append(l, all[90:90+i])
	}
	return l
}

func TestKnownSums(t *testing.T) {
	for _, c := range []struct {
		text string
		want uint32
	}{
		{"", 0},
		{"123456789", 0xCBF43926},
		{"\x00", 0xD202EF8D},
		{"\xff", 0xFF000000},
		{"\x00\x00\x00\x00", 0x2144DF1C},
		{"\xff\xff\xff\xff", 0xFFFFFFFF},
		{"a", 0xE8B7BE43},
		{"abc", 0x352441C2},
		{"The quick brown fox jumps over the lazy dog", 0x414FA339},
	} {
		if got := Of([]byte(c.text)); got != c.want {
			t.Errorf("Of(%q) is %08X, want %08X", c.text, got, c.want)
		}
	}
}

func TestNoParts(t *testing.T) {
	var none [][]byte
	for name, got := range map[string]uint32{
		"no part":             Of(),
		"no list of parts":    Of(none...),
		"an empty list":       Of([][]byte{}...),
		"one nil part":        Of(nil),
		"one empty part":      Of([]byte{}),
		"several empty parts": Of(nil, []byte{}, nil, []byte{}),
	} {
		if got != 0 {
			t.Errorf("%s: %08X, want 0", name, got)
		}
	}
}

func TestEmptyPartsAmongOthers(t *testing.T) {
	a, b, empty := []byte("1234"), []byte("56789"), []byte{}
	for i, parts := range [][][]byte{
		{nil, a, b},
		{empty, a, b},
		{a, nil, b},
		{a, empty, b},
		{a, b, nil},
		{a, b, empty},
		{nil, empty, a, empty, nil, nil, b, nil, empty},
	} {
		if got := Of(parts...); got != 0xCBF43926 {
			t.Errorf("parts %d: %08X, want CBF43926", i, got)
		}
	}
}

func TestPartedInSeveralWays(t *testing.T) {
	for _, text := range texts() {
		want := Of(text)
		for i := range len(text) + 1 {
			if got := Of(text[:i], text[i:]); got != want {
				t.Fatalf("%q parted at %d: %08X, want %08X", text, i, got, want)
			}
		}
		for size := range min(len(text), 9) {
			parts := slices.Collect(slices.Chunk(text, size+1))
			if got := Of(parts...); got != want {
				t.Fatalf("%q in %d parts: %08X, want %08X", text, len(parts), got, want)
			}
		}
	}
}

func TestPartedInThree(t *testing.T) {
	text := []byte("the parts of a sum")
	for i := range len(text) + 1 {
		for j := i; j <= len(text); j++ {
			if got, want := Of(text[:i], text[i:j], text[j:]), longDivision(text); got != want {
				t.Fatalf("parted at %d and %d: %08X, want %08X", i, j, got, want)
			}
		}
	}
}

func TestManyParts(t *testing.T) {
	text := bytes.Repeat([]byte("0123456789abcde"), 5000)
	if got, want := Of(slices.Collect(slices.Chunk(text, 1))...), crc32.ChecksumIEEE(text); got != want {
		t.Fatalf("%08X, want %08X", got, want)
	}
}

func TestOrderOfParts(t *testing.T) {
	a, b := []byte("1234"), []byte("56789")
	if got, want := Of(b, a), longDivision([]byte("567891234")); got != want || got == Of(a, b) {
		t.Fatalf("%08X, want %08X", got, want)
	}
}

func TestBitByBit(t *testing.T) {
	for _, text := range texts() {
		got := Of(text)
		if want := longDivision(text); got != want {
			t.Errorf("Of(%q) is %08X, want %08X", text, got, want)
		}
		if want := crc32.ChecksumIEEE(text); got != want {
			t.Errorf("Of(%q) is %08X, the library's is %08X", text, got, want)
		}
	}
}

func TestEveryBitCounts(t *testing.T) {
	text := []byte("a text of which one bit is another one")
	want := Of(text)
	for i := range 8 * len(text) {
		text[i/8] ^= 1 << (i % 8)
		if got := Of(text); got == want || got != longDivision(text) {
			t.Errorf("bit %d: %08X", i, got)
		}
		text[i/8] ^= 1 << (i % 8)
	}
}

func TestArgumentsStay(t *testing.T) {
	whole := []byte("12345678 and what stands behind")
	parts := [][]byte{whole[:4], nil, whole[4:8]}
	Of(parts...)
	if string(whole) != "12345678 and what stands behind" {
		t.Errorf("the bytes are now %q", whole)
	}
	if len(parts) != 3 || string(parts[0]) != "1234" || parts[1] != nil || string(parts[2]) != "5678" {
		t.Errorf("the parts are now %q", parts)
	}
}

func TestEarlierCallsDontCount(t *testing.T) {
	text := []byte("123456789")
	for range 3 {
		if got := Of(text); got != 0xCBF43926 {
			t.Fatalf("%08X, want CBF43926", got)
		}
		Of([]byte("something else"), text)
		Of()
	}
	copy(text, "abcdefghi")
	if got, want := Of(text), longDivision([]byte("abcdefghi")); got != want {
		t.Fatalf("of changed bytes: %08X, want %08X", got, want)
	}
}
