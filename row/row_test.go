package row

import (
	"bytes"
	"math"
	"strings"
	"testing"

	"tenement/api"
)

const (
	longKey   = "0123456789abcde"
	longValue = "0123456789abcdefghijk"
)

// Where the parts of an encoding begin, counted by hand.
const (
	atTable, atKeySize, atKey, atValueSize, atValue, size = 1, 2, 3, 18, 19, 40
)

// texts are one of every length up to that one, with every kind of byte among them.
func texts(most int) []string {
	const all = "\x00a\xff\x01Zß\n\x80\xfe0\x00\x00\x7f~\x02\x03\x04\xc3(\x00\xff\x00"
	var l []string
	for n := range most + 1 {
		l = append(l, all[:n])
	}
	return l
}

// rows are all tables with texts of all lengths.
func rows() []api.Row {
	var l []api.Row
	for table := range 4 {
		for _, key := range texts(15) {
			for _, value := range texts(21) {
				l = append(l, api.Row{Table: table, Key: key, Value: value})
			}
		}
	}
	return l
}

// byHand lays a row at fixed places, without the steps of what it checks.
func byHand(r api.Row) []byte {
	b := make([]byte, size)
	b[0] = 1
	b[atTable] = byte(r.Table)
	b[atKeySize] = byte(len(r.Key))
	copy(b[atKey:atValueSize], r.Key)
	b[atValueSize] = byte(len(r.Value))
	copy(b[atValue:], r.Value)
	return b
}

// decodeByHand is Decode as the document tells it, byte by byte at fixed places.
func decodeByHand(b []byte) (api.Row, api.Errno) {
	if len(b) == size && strings.Trim(string(b), "\x00") == "" {
		return api.Row{}, api.ErrNone
	}
	if len(b) != size || b[0] != 1 || b[atTable] > 3 || b[atKeySize] > 15 || b[atValueSize] > 21 {
		return api.Row{}, api.ErrForm
	}
	keyEnd, valueEnd := atKey+int(b[atKeySize]), atValue+int(b[atValueSize])
	for _, unused := range [][]byte{b[keyEnd:atValueSize], b[valueEnd:]} {
		for _, x := range unused {
			if x != 0 {
				return api.Row{}, api.ErrForm
			}
		}
	}
	return api.Row{Table: int(b[atTable]), Key: string(b[atKey:keyEnd]), Value: string(b[atValue:valueEnd])}, api.OK
}

// wantDecode holds what Decode answers against what it should.
func wantDecode(t *testing.T, b []byte, want api.Row, err api.Errno) {
	t.Helper()
	if got, e := Decode(b); got != want || e != err {
		t.Errorf("Decode(%q) is %+v, %v; want %+v, %v", b, got, e, want, err)
	}
}

func TestRight(t *testing.T) {
	for _, c := range []struct {
		r    api.Row
		want bool
	}{
		{api.Row{}, true},
		{api.Row{Table: 1}, true},
		{api.Row{Table: 2, Key: "ab", Value: "xyz"}, true},
		{api.Row{Table: 3}, true},
		{api.Row{Table: 4}, false},
		{api.Row{Table: 5}, false},
		{api.Row{Table: 256}, false},
		{api.Row{Table: 257}, false},
		{api.Row{Table: -1}, false},
		{api.Row{Table: -256}, false},
		{api.Row{Table: math.MinInt}, false},
		{api.Row{Table: math.MaxInt}, false},
		{api.Row{Table: 1 << 32}, false},
		{api.Row{Key: longKey}, true},
		{api.Row{Key: longKey + "f"}, false},
		{api.Row{Value: longValue}, true},
		{api.Row{Value: longValue + "l"}, false},
		{api.Row{Table: 3, Key: longKey, Value: longValue}, true},
		{api.Row{Table: 4, Key: longKey, Value: longValue}, false},
		{api.Row{Table: 3, Key: longKey + "f", Value: longValue}, false},
		{api.Row{Table: 3, Key: longKey, Value: longValue + "l"}, false},
		{api.Row{Table: 4, Key: longKey + "f", Value: longValue + "l"}, false},
		{api.Row{Table: -1, Key: "a"}, false},
		{api.Row{Key: strings.Repeat("\x00", 15), Value: strings.Repeat("\x00", 21)}, true},
		{api.Row{Key: strings.Repeat("\x00", 16)}, false},
		{api.Row{Value: strings.Repeat("\x00", 22)}, false},
		{api.Row{Key: strings.Repeat("\xff", 15), Value: strings.Repeat("\xff", 21)}, true},
		// 8 characters, but 16 bytes; 11, but 22.
		{api.Row{Key: strings.Repeat("ß", 8)}, false},
		{api.Row{Value: strings.Repeat("ß", 11)}, false},
		{api.Row{Key: strings.Repeat("k", 256)}, false},
		{api.Row{Value: strings.Repeat("v", 256)}, false},
		{api.Row{Key: strings.Repeat("k", 70000), Value: strings.Repeat("v", 70000)}, false},
	} {
		if got := Right(c.r); got != c.want {
			t.Errorf("Right of table %d, a key of %d bytes, a value of %d: %v, want %v", c.r.Table, len(c.r.Key), len(c.r.Value), got, c.want)
		}
	}
}

func TestRightOfEveryLength(t *testing.T) {
	for table := -2; table < 7; table++ {
		for key := range 40 {
			for value := range 40 {
				r := api.Row{Table: table, Key: strings.Repeat("k", key), Value: strings.Repeat("v", value)}
				if want := table >= 0 && table <= 3 && key <= 15 && value <= 21; Right(r) != want {
					t.Fatalf("Right of table %d, a key of %d bytes, a value of %d: want %v", table, key, value, want)
				}
			}
		}
	}
}

// Every row of the list comes ahead of all those behind it.
func TestLess(t *testing.T) {
	inOrder := []api.Row{
		{Table: math.MinInt, Key: "z"},
		{Table: -1},
		{Table: -1, Key: "a"},
		{Table: 0},
		{Table: 0, Key: "\x00"},
		{Table: 0, Key: "\x00\x00"},
		{Table: 0, Key: "A"},
		{Table: 0, Key: "Z"},
		{Table: 0, Key: "a"},
		{Table: 0, Key: "a\x00"},
		{Table: 0, Key: "a\x00b"},
		{Table: 0, Key: "aa"},
		{Table: 0, Key: "ab"},
		{Table: 0, Key: "b"},
		{Table: 0, Key: "z"},
		{Table: 0, Key: "\x7f"},
		{Table: 0, Key: "\x80"},
		{Table: 0, Key: "ß"},
		{Table: 0, Key: "\xff"},
		{Table: 0, Key: "\xff\xff"},
		{Table: 1},
		{Table: 1, Key: "a"},
		{Table: 2},
		{Table: 3, Key: longKey},
		{Table: 3, Key: longKey + "f"},
		{Table: 4},
		{Table: 10},
		{Table: math.MaxInt, Key: "a"},
	}
	for i, a := range inOrder {
		for j, b := range inOrder {
			// A value that points the other way must not count.
			a.Value, b.Value = "z", "a"
			if got := Less(a, b); got != (i < j) {
				t.Errorf("Less(%+v, %+v) is %v", a, b, got)
			}
			a.Value, b.Value = "a", "z"
			if got := Less(a, b); got != (i < j) {
				t.Errorf("Less(%+v, %+v) is %v", a, b, got)
			}
		}
	}
}

func TestEncodeKnown(t *testing.T) {
	zeros := func(n int) string { return strings.Repeat("\x00", n) }
	for _, c := range []struct {
		r    api.Row
		want string
	}{
		{api.Row{}, "\x01" + zeros(39)},
		{api.Row{Table: 3}, "\x01\x03" + zeros(38)},
		{api.Row{Table: 2, Key: "ab", Value: "xyz"}, "\x01\x02\x02ab" + zeros(13) + "\x03xyz" + zeros(18)},
		{api.Row{Table: 1, Key: "k"}, "\x01\x01\x01k" + zeros(14) + "\x00" + zeros(21)},
		{api.Row{Table: 1, Value: "v"}, "\x01\x01\x00" + zeros(15) + "\x01v" + zeros(20)},
		{api.Row{Table: 3, Key: longKey, Value: longValue}, "\x01\x03\x0f" + longKey + "\x15" + longValue},
		{api.Row{Key: "\x00", Value: "\x00\x00"}, "\x01\x00\x01" + zeros(15) + "\x02" + zeros(21)},
		{api.Row{Key: "\xff\x01", Value: "ß"}, "\x01\x00\x02\xff\x01" + zeros(13) + "\x02\xc3\x9f" + zeros(19)},
	} {
		if got := string(Encode(c.r)); got != c.want {
			t.Errorf("Encode(%+v) is %q, want %q", c.r, got, c.want)
		}
		wantDecode(t, []byte(c.want), c.r, api.OK)
	}
}

func TestRowsComeBack(t *testing.T) {
	seen := map[string]api.Row{}
	for _, r := range rows() {
		b := Encode(r)
		if !bytes.Equal(b, byHand(r)) {
			t.Fatalf("Encode(%+v) is %q, want %q", r, b, byHand(r))
		}
		wantDecode(t, b, r, api.OK)
		if other, ok := seen[string(b)]; ok {
			t.Errorf("%+v and %+v have one encoding", r, other)
		}
		seen[string(b)] = r
	}
}

// The document says nothing of the bytes of a row that isn't valid, but the call must end, and no slot may take them for a row.
func TestEncodeOfNoRow(t *testing.T) {
	for _, r := range []api.Row{
		{Table: -1}, {Table: 4}, {Table: 256}, {Table: 257}, {Table: math.MinInt}, {Table: math.MaxInt},
		{Key: longKey + "f"}, {Value: longValue + "l"}, {Key: longKey + "f", Value: longValue + "l"},
		{Key: strings.Repeat("k", 256)}, {Value: strings.Repeat("v", 257)}, {Key: strings.Repeat("k", 70000), Value: strings.Repeat("v", 70000)},
	} {
		if got, e := Decode(Encode(r)); e == api.OK {
			t.Errorf("Encode of table %d, a key of %d bytes, a value of %d tells %+v", r.Table, len(r.Key), len(r.Value), got)
		}
	}
}

func TestDecodeZeros(t *testing.T) {
	for n := range 130 {
		want := api.ErrForm
		if n == size {
			want = api.ErrNone
		}
		wantDecode(t, make([]byte, n), api.Row{}, want)
	}
	wantDecode(t, nil, api.Row{}, api.ErrForm)
}

func TestDecodeOfNoSize(t *testing.T) {
	for _, r := range []api.Row{{}, {Table: 2, Key: "ab", Value: "xyz"}, {Table: 3, Key: longKey, Value: longValue}} {
		b := byHand(r)
		for n := range size {
			wantDecode(t, b[:n], api.Row{}, api.ErrForm)
		}
		for n := 1; n < 90; n++ {
			wantDecode(t, append(byHand(r), make([]byte, n)...), api.Row{}, api.ErrForm)
			wantDecode(t, append(make([]byte, n), b...), api.Row{}, api.ErrForm)
		}
	}
}

func TestDecodeWrong(t *testing.T) {
	for name, spoil := range map[string]func([]byte){
		"begins with 0":             func(b []byte) { b[0] = 0 },
		"begins with 2":             func(b []byte) { b[0] = 2 },
		"begins with 255":           func(b []byte) { b[0] = 255 },
		"table 4":                   func(b []byte) { b[atTable] = 4 },
		"table 255":                 func(b []byte) { b[atTable] = 255 },
		"a key too long":            func(b []byte) { b[atKeySize] = 16 },
		"a key up to the value":     func(b []byte) { b[atKeySize] = 36 },
		"a key up to the end":       func(b []byte) { b[atKeySize] = 37 },
		"a key behind the end":      func(b []byte) { b[atKeySize] = 38 },
		"a key of 255":              func(b []byte) { b[atKeySize] = 255 },
		"a key too short":           func(b []byte) { b[atKeySize] = 1 },
		"no key":                    func(b []byte) { b[atKeySize] = 0 },
		"a value too long":          func(b []byte) { b[atValueSize] = 22 },
		"a value of 255":            func(b []byte) { b[atValueSize] = 255 },
		"a value too short":         func(b []byte) { b[atValueSize] = 2 },
		"no value":                  func(b []byte) { b[atValueSize] = 0 },
		"a byte behind the key":     func(b []byte) { b[atKey+2] = 1 },
		"the last behind the key":   func(b []byte) { b[atValueSize-1] = 0x80 },
		"a byte behind the value":   func(b []byte) { b[atValue+3] = 1 },
		"the last behind the value": func(b []byte) { b[size-1] = 0x80 },
	} {
		b := byHand(api.Row{Table: 2, Key: "ab", Value: "xyz"})
		spoil(b)
		if got, e := Decode(b); got != (api.Row{}) || e != api.ErrForm {
			t.Errorf("%s: %+v, %v", name, got, e)
		}
	}
}

// Only zeros are ErrNone: a single byte that isn't zero makes them a row or nothing.
func TestDecodeOneByte(t *testing.T) {
	for at := range size {
		for x := 1; x < 256; x++ {
			b := make([]byte, size)
			b[at] = byte(x)
			if at == 0 && x == 1 {
				wantDecode(t, b, api.Row{}, api.OK)
			} else {
				wantDecode(t, b, api.Row{}, api.ErrForm)
			}
		}
	}
}

func TestDecodeEveryByteElse(t *testing.T) {
	for _, r := range []api.Row{
		{},
		{Table: 2, Key: "ab", Value: "xyz"},
		{Table: 3, Key: longKey, Value: longValue},
		{Table: 1, Key: "\x00\x00", Value: "\x00"},
		{Key: longKey},
		{Value: longValue},
		{Table: 3, Key: strings.Repeat("\xff", 15), Value: strings.Repeat("\xff", 21)},
	} {
		for at := range size {
			for x := range 256 {
				b := byHand(r)
				b[at] = byte(x)
				want, err := decodeByHand(b)
				wantDecode(t, b, want, err)
			}
		}
	}
}

// Both lengths at once, over bytes of which some are zero, so that many pairs are rows and many are not.
func TestDecodeEveryPairOfLengths(t *testing.T) {
	for _, r := range []api.Row{{}, {Key: "abc\x00", Value: "\x00de"}, {Key: longKey, Value: longValue}} {
		right := 0
		for key := range 256 {
			for value := range 256 {
				b := byHand(r)
				b[atKeySize], b[atValueSize] = byte(key), byte(value)
				want, err := decodeByHand(b)
				wantDecode(t, b, want, err)
				if err == api.OK {
					right++
				}
			}
		}
		if right == 0 {
			t.Errorf("no lengths made a row of %+v", r)
		}
	}
}

func TestAnswersAreNew(t *testing.T) {
	r := api.Row{Table: 2, Key: "ab", Value: "xyz"}
	one, two := Encode(r), Encode(r)
	clear(one[:cap(one)])
	if !bytes.Equal(two, byHand(r)) || !bytes.Equal(Encode(r), byHand(r)) {
		t.Error("what is written into an answer changes another one")
	}
}

func TestArgumentsStay(t *testing.T) {
	r := api.Row{Table: 2, Key: "ab", Value: "xyz"}
	whole := append(byHand(r), "behind"...)
	kept := bytes.Clone(whole)
	got, e := Decode(whole[:size])
	if got != r || e != api.OK || !bytes.Equal(whole, kept) {
		t.Errorf("%+v, %v; the bytes are now %q", got, e, whole)
	}
	clear(whole)
	if got != r {
		t.Errorf("the row changes with the bytes: %+v", got)
	}
	wantDecode(t, whole[:size], api.Row{}, api.ErrNone)
}
