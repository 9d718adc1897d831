package pack

import (
	"bytes"
	"math"
	"strings"
	"testing"
)

// all is every byte once, in order.
func all() []byte {
	b := make([]byte, 256)
	for i := range b {
		b[i] = byte(i)
	}
	return b
}

func TestPutKnown(t *testing.T) {
	for _, c := range []struct {
		b    []byte
		n    int
		x    uint64
		want string
	}{
		{nil, 2, 258, "\x01\x02"},
		{nil, 1, 0, "\x00"},
		{nil, 1, 255, "\xff"},
		{nil, 1, 256, "\x00"},
		{nil, 1, 0x1234, "\x34"},
		{[]byte{}, 3, 0x1020304, "\x02\x03\x04"},
		{[]byte("ab"), 4, 1, "ab\x00\x00\x00\x01"},
		{[]byte{0}, 5, 0x0102030405060708, "\x00\x04\x05\x06\x07\x08"},
		{nil, 6, 0xFFFFFFFFFFFFFFFF, "\xff\xff\xff\xff\xff\xff"},
		{nil, 7, 0x0102030405060708, "\x02\x03\x04\x05\x06\x07\x08"},
		{nil, 8, 0x0102030405060708, "\x01\x02\x03\x04\x05\x06\x07\x08"},
		{nil, 8, 1 << 63, "\x80\x00\x00\x00\x00\x00\x00\x00"},
		{[]byte("x"), 8, math.MaxUint64, "x\xff\xff\xff\xff\xff\xff\xff\xff"},
	} {
		if got := string(Put(c.b, c.n, c.x)); got != c.want {
			t.Errorf("Put(%q, %d, %X) is %q, want %q", c.b, c.n, c.x, got, c.want)
		}
	}
}

func TestPutEveryByteOfEverySize(t *testing.T) {
	for n := 1; n <= 8; n++ {
		for at := range 8 {
			for _, b := range all() {
				got := Put([]byte("#"), n, uint64(b)<<(8*at))
				want := make([]byte, n+1)
				want[0] = '#'
				if at < n {
					want[n-at] = b
				}
				if !bytes.Equal(got, want) {
					t.Fatalf("Put of byte %d at %d in %d bytes: %v, want %v", b, at, n, got, want)
				}
			}
		}
	}
}

func TestTextKnown(t *testing.T) {
	for _, c := range []struct{ b, s, want string }{
		{"", "", "\x00"},
		{"", "a", "\x01a"},
		{"b", "", "b\x00"},
		{"before", "behind", "before\x06behind"},
		{"", "\x00\xff", "\x02\x00\xff"},
		{"", "ß", "\x02\xc3\x9f"},
		{"x", strings.Repeat("z", 255), "x\xff" + strings.Repeat("z", 255)},
	} {
		if got := string(Text([]byte(c.b), c.s)); got != c.want {
			t.Errorf("Text(%q, %q) is %q, want %q", c.b, c.s, got, c.want)
		}
	}
}

func TestTextOfEveryLength(t *testing.T) {
	for n := range 256 {
		s := string(all()[:n])
		if got, want := string(Text([]byte{7}, s)), "\x07"+string([]byte{byte(n)})+s; got != want {
			t.Fatalf("a text of %d bytes: %q, want %q", n, got, want)
		}
	}
}

// What stands behind b in its array belongs to somebody else, who must not find it changed, nor change an answer.
func TestAnswersAreNew(t *testing.T) {
	for name, lay := range map[string]func([]byte) []byte{
		"Put":           func(b []byte) []byte { return Put(b, 2, 258) },
		"Text":          func(b []byte) []byte { return Text(b, "\x02") },
		"Text of none":  func(b []byte) []byte { return Text(b, "") },
		"Put of 8":      func(b []byte) []byte { return Put(b, 8, 0) },
		"Text of long":  func(b []byte) []byte { return Text(b, strings.Repeat("z", 255)) },
		"Put of 1 byte": func(b []byte) []byte { return Put(b, 1, 9) },
	} {
		for taken := range 5 {
			whole := bytes.Repeat([]byte("abcd"), 100)
			b := whole[:taken]
			one := lay(b)
			kept := bytes.Clone(one)
			if !bytes.Equal(whole, bytes.Repeat([]byte("abcd"), 100)) {
				t.Errorf("%s behind %d bytes wrote into what it was given", name, taken)
			}
			clear(whole)
			if !bytes.Equal(one, kept) {
				t.Errorf("%s behind %d bytes: the answer changes with what was given", name, taken)
			}
		}
	}
}

// Two numbers behind the same bytes: neither may write over the other.
func TestTwoBehindTheSame(t *testing.T) {
	base := Put(nil, 3, 1)
	one, two := Put(base, 1, 1), Put(base, 1, 2)
	three, four := Text(base, "a"), Text(base, "b")
	for _, c := range []struct {
		got  []byte
		want string
	}{{base, "\x00\x00\x01"}, {one, "\x00\x00\x01\x01"}, {two, "\x00\x00\x01\x02"}, {three, "\x00\x00\x01\x01a"}, {four, "\x00\x00\x01\x01b"}} {
		if string(c.got) != c.want {
			t.Errorf("%q, want %q", c.got, c.want)
		}
	}
}

// What the document doesn't say to be valid has no promised answer, but must end.
func TestWrongSizesEnd(t *testing.T) {
	for _, n := range []int{math.MinInt, -1, 0, 9, 64, math.MaxInt} {
		Put([]byte("b"), n, 1)
	}
	Text(nil, strings.Repeat("z", 256))
	Text(nil, strings.Repeat("z", 70000))
}

func TestTake(t *testing.T) {
	r := New([]byte("abcdef"))
	for _, c := range []struct {
		n    int
		want string
		rest int
	}{{0, "", 6}, {1, "a", 5}, {3, "bcd", 2}, {0, "", 2}, {2, "ef", 0}, {0, "", 0}} {
		if got := string(r.Take(c.n)); got != c.want || r.Rest() != c.rest || r.Bad() {
			t.Fatalf("Take(%d) is %q, rest %d, bad %v; want %q, %d", c.n, got, r.Rest(), r.Bad(), c.want, c.rest)
		}
	}
}

func TestTakeFails(t *testing.T) {
	for _, n := range []int{math.MinInt, -5, -1, 4, 5, math.MaxInt} {
		r := New([]byte("abc"))
		if got := r.Take(n); len(got) != 0 || !r.Bad() || r.Rest() != 3 {
			t.Errorf("Take(%d) of 3 bytes is %q, rest %d, bad %v", n, got, r.Rest(), r.Bad())
		}
	}
	r := New(nil)
	if got := r.Take(1); len(got) != 0 || !r.Bad() || r.Rest() != 0 {
		t.Errorf("Take(1) of nothing is %q, rest %d, bad %v", got, r.Rest(), r.Bad())
	}
}

func TestFailedForGood(t *testing.T) {
	for name, fail := range map[string]func(*Reader){
		"Take of too many": func(r *Reader) { r.Take(100) },
		"Take below 0":     func(r *Reader) { r.Take(-1) },
		"Num of too many":  func(r *Reader) { r.Num(8) },
		"Num of 9":         func(r *Reader) { r.Num(9) },
		"Num of 0":         func(r *Reader) { r.Num(0) },
	} {
		r := New([]byte("\x01a\x01b"))
		fail(r)
		for range 3 {
			if got := r.Take(1); len(got) != 0 {
				t.Errorf("behind %s: Take is %q", name, got)
			}
			if got := r.Take(0); len(got) != 0 {
				t.Errorf("behind %s: Take of 0 is %q", name, got)
			}
			if got := r.Num(1); got != 0 {
				t.Errorf("behind %s: Num is %d", name, got)
			}
			if got := r.Text(); got != "" {
				t.Errorf("behind %s: Text is %q", name, got)
			}
			if !r.Bad() || r.Rest() != 4 {
				t.Errorf("behind %s: bad %v, rest %d", name, r.Bad(), r.Rest())
			}
		}
	}
}

func TestNumKnown(t *testing.T) {
	b := []byte{0x80, 2, 3, 4, 5, 6, 7, 0xff}
	for n, want := range []uint64{1: 0x80, 2: 0x8002, 3: 0x800203, 4: 0x80020304, 5: 0x8002030405, 6: 0x800203040506, 7: 0x80020304050607, 8: 0x80020304050607ff} {
		if n == 0 {
			continue
		}
		r := New(b)
		if got := r.Num(n); got != want || r.Rest() != 8-n || r.Bad() {
			t.Errorf("Num(%d) is %X, rest %d, bad %v; want %X", n, got, r.Rest(), r.Bad(), want)
		}
	}
}

func TestNumOfNoSize(t *testing.T) {
	for _, n := range []int{math.MinInt, -1, 0, 9, 10, math.MaxInt} {
		r := New(all())
		if got := r.Num(n); got != 0 || !r.Bad() || r.Rest() != 256 {
			t.Errorf("Num(%d) is %d, rest %d, bad %v", n, got, r.Rest(), r.Bad())
		}
	}
}

func TestNumOfTooFew(t *testing.T) {
	for n := 1; n <= 8; n++ {
		for have := range n {
			r := New(bytes.Repeat([]byte{0xff}, have))
			if got := r.Num(n); got != 0 || !r.Bad() || r.Rest() != have {
				t.Errorf("Num(%d) of %d bytes is %X, rest %d, bad %v", n, have, got, r.Rest(), r.Bad())
			}
		}
	}
}

func TestNumsComeBack(t *testing.T) {
	numbers := []uint64{0, 1, 0x7f, 0x80, 0xff, 0x100, 0xfffe, 1 << 31, 1<<32 - 1, 1 << 63, 0x0102030405060708, math.MaxUint64}
	var b []byte
	for n := 1; n <= 8; n++ {
		for _, x := range numbers {
			b = Put(b, n, x)
		}
	}
	r := New(b)
	for n := 1; n <= 8; n++ {
		for _, x := range numbers {
			if got, want := r.Num(n), x&(math.MaxUint64>>(64-8*n)); got != want {
				t.Errorf("%X in %d bytes comes back as %X", x, n, got)
			}
		}
	}
	if r.Bad() || r.Rest() != 0 {
		t.Errorf("bad %v, rest %d", r.Bad(), r.Rest())
	}
}

func TestTextsComeBack(t *testing.T) {
	var b []byte
	for n := range 256 {
		b = Text(b, string(all()[256-n:]))
	}
	r := New(b)
	for n := range 256 {
		if got := r.Text(); got != string(all()[256-n:]) {
			t.Fatalf("the text of %d bytes comes back as %q", n, got)
		}
	}
	if r.Bad() || r.Rest() != 0 {
		t.Errorf("bad %v, rest %d", r.Bad(), r.Rest())
	}
}

func TestTextFails(t *testing.T) {
	for _, c := range []struct {
		b    string
		rest int
	}{{"", 0}, {"\x01", 0}, {"\x05a", 1}, {"\x05abcd", 4}, {"\xff" + strings.Repeat("z", 254), 254}} {
		r := New([]byte(c.b))
		if got := r.Text(); got != "" || !r.Bad() || r.Rest() != c.rest {
			t.Errorf("Text of %q is %q, rest %d, bad %v; want rest %d", c.b, got, r.Rest(), r.Bad(), c.rest)
		}
		if r.Text() != "" || !r.Bad() || r.Rest() != c.rest {
			t.Errorf("Text of %q again: rest %d, bad %v; want rest %d", c.b, r.Rest(), r.Bad(), c.rest)
		}
	}
}

func TestEmptyTextIsNoFailure(t *testing.T) {
	r := New([]byte("\x00\x01a"))
	if r.Text() != "" || r.Bad() || r.Rest() != 2 || r.Text() != "a" || r.Bad() || r.Rest() != 0 {
		t.Errorf("bad %v, rest %d", r.Bad(), r.Rest())
	}
}

func TestNewReader(t *testing.T) {
	for _, b := range [][]byte{nil, {}, {1}, all()} {
		if r := New(b); r == nil || r.Bad() || r.Rest() != len(b) {
			t.Errorf("of %d bytes: bad %v, rest %d", len(b), r.Bad(), r.Rest())
		}
	}
}

func TestReaderKeepsNothingOfOthers(t *testing.T) {
	b := []byte("\x01abcdefgh")
	r := New(b)
	clear(b)
	one := r.Take(2)
	if string(one) != "\x01a" {
		t.Errorf("what was given was changed, and Take is %q", one)
	}
	if one = append(one, "XY"...); string(one) != "\x01aXY" || string(r.Take(2)) != "bc" {
		t.Error("what is appended to an answer changes the next one")
	}
	two := New([]byte("abcd"))
	first := two.Take(2)
	clear(first[:cap(first)])
	if string(two.Take(2)) != "cd" {
		t.Error("what is written into an answer changes the next one")
	}
	if !bytes.Equal(b, make([]byte, 9)) {
		t.Errorf("the bytes given are now %q", b)
	}
}

func TestReadersAreApart(t *testing.T) {
	b := []byte("abc")
	one, two := New(b), New(b)
	one.Take(9)
	if two.Bad() || string(two.Take(3)) != "abc" || string(b) != "abc" {
		t.Error("one reader changes another one")
	}
}

func TestNilReader(t *testing.T) {
	var r *Reader
	for _, n := range []int{math.MinInt, -1, 0, 1, 8, 9, math.MaxInt} {
		if got := r.Take(n); len(got) != 0 {
			t.Errorf("Take(%d) is %q", n, got)
		}
		if got := r.Num(n); got != 0 {
			t.Errorf("Num(%d) is %d", n, got)
		}
	}
	if !r.Bad() || r.Rest() != 0 || r.Text() != "" {
		t.Errorf("bad %v, rest %d", r.Bad(), r.Rest())
	}
}

// A model is a reader as the document tells it, with the whole text and how much of it was taken.
type model struct {
	whole string
	taken int
	bad   bool
}

func (m *model) take(n int) (string, bool) {
	if m.bad || n < 0 || m.taken+n > len(m.whole) {
		m.bad = true
		return "", false
	}
	s := m.whole[m.taken : m.taken+n]
	m.taken += n
	return s, true
}

func (m *model) num(n int) uint64 {
	s, ok := "", n >= 1 && n <= 8
	if ok {
		s, ok = m.take(n)
	}
	m.bad = !ok
	var x uint64
	for i := range len(s) {
		x += uint64(s[i]) << (8 * (len(s) - 1 - i))
	}
	return x
}

func (m *model) text() string {
	size, ok := m.take(1)
	if !ok {
		return ""
	}
	s, _ := m.take(int(size[0]))
	return s
}

// step does one of steps ways of reading on both, and tells whether they answer the same.
func step(way int, r *Reader, m *model) bool {
	same := false
	switch way {
	case 0, 1, 2, 3, 4:
		want, _ := m.take(way - 1)
		same = string(r.Take(way-1)) == want
	case 5, 6, 7, 8:
		sizes := [...]int{0, 1, 2, 9}
		same = r.Num(sizes[way-5]) == m.num(sizes[way-5])
	default:
		same = r.Text() == m.text()
	}
	return same && r.Bad() == m.bad && r.Rest() == len(m.whole)-m.taken
}

func TestEveryShortReading(t *testing.T) {
	const steps = 10
	for _, whole := range []string{"", "\x00", "\x01", "\x02a", "\x02\x01\x02", "\x00\x00\x03abc", "\x01\x01\x01\x01\x01", "\x03abcd\x02e"} {
		for ways := range steps * steps * steps * steps {
			r, m := New([]byte(whole)), &model{whole: whole}
			for rest := ways; rest > 0; rest /= steps {
				if !step(rest%steps, r, m) {
					t.Fatalf("of %q, ways %d (the last digit first): rest %d, bad %v", whole, ways, r.Rest(), r.Bad())
				}
			}
		}
	}
}
