package port

import (
	"bytes"
	"hash/crc32"
	"math"
	"math/rand"
	"slices"
	"strconv"
	"strings"
	"testing"

	"tenement/api"
)

const (
	longKey   = "0123456789abcde"
	longValue = "0123456789abcdefghijk"
)

// few is how many rows a tenant has room for, many as many as an encoding can tell, counted by hand.
const few, many = 30, 65535

// summed lays the check sum of bytes behind them.
func summed(body string) []byte {
	sum := crc32.ChecksumIEEE([]byte(body))
	return append([]byte(body), byte(sum>>24), byte(sum>>16), byte(sum>>8), byte(sum))
}

// body lays rows, and any number ahead of them, without the steps of what it checks and without asking whether they may be.
func body(number int, l ...api.Row) string {
	var b strings.Builder
	b.WriteString("TNM1")
	b.WriteByte(byte(number >> 8))
	b.WriteByte(byte(number))
	for _, r := range l {
		b.WriteByte(byte(r.Table))
		b.WriteByte(byte(len(r.Key)))
		b.WriteString(r.Key)
		b.WriteByte(byte(len(r.Value)))
		b.WriteString(r.Value)
	}
	return b.String()
}

func byHand(l ...api.Row) []byte { return summed(body(len(l), l...)) }

// cut takes the first n bytes of a text; false: it has fewer.
func cut(s string, n int) (string, string, bool) {
	if n > len(s) {
		return "", "", false
	}
	return s[:n], s[n:], true
}

// textByHand takes a text behind its length.
func textByHand(s string, most int) (string, string, bool) {
	size, rest, ok := cut(s, 1)
	if !ok || int(size[0]) > most {
		return "", "", false
	}
	return cut(rest, int(size[0]))
}

// rowByHand takes a row that may be.
func rowByHand(s string) (api.Row, string, bool) {
	table, rest, ok := cut(s, 1)
	if !ok || table[0] > 3 {
		return api.Row{}, "", false
	}
	key, rest, ok := textByHand(rest, 15)
	if !ok {
		return api.Row{}, "", false
	}
	value, rest, ok := textByHand(rest, 21)
	return api.Row{Table: int(table[0]), Key: key, Value: value}, rest, ok
}

// decodeByHand is Decode as the document tells it, part by part from the front.
func decodeByHand(b []byte) ([]api.Row, api.Errno) {
	if len(b) < 10 || string(b[:4]) != "TNM1" || !bytes.Equal(summed(string(b[:len(b)-4])), b) {
		return nil, api.ErrForm
	}
	var l []api.Row
	rest := string(b[6 : len(b)-4])
	for len(rest) > 0 {
		r, behind, ok := rowByHand(rest)
		if !ok {
			return nil, api.ErrForm
		}
		if n := len(l); n > 0 && (l[n-1].Table > r.Table || l[n-1].Table == r.Table && l[n-1].Key >= r.Key) {
			return nil, api.ErrForm
		}
		l, rest = append(l, r), behind
	}
	if len(l) != int(b[4])<<8+int(b[5]) {
		return nil, api.ErrForm
	}
	if len(l) > few {
		return nil, api.ErrQuota
	}
	return l, api.OK
}

// ladder: n rows in their order, over all tables, with keys and values of all lengths and of every kind of byte.
func ladder(n int) []api.Row {
	var l []api.Row
	for i := range n {
		// Two bytes, the highest first, keep the order of the numbers.
		key := string([]byte{byte(i >> 8), byte(i)}) + strings.Repeat("\xff\x00k\x80", 4)[:i%14]
		value := strings.Repeat("\x00v\xfe\xc3", 6)[:i%22]
		l = append(l, api.Row{Table: i * 4 / n, Key: key, Value: value})
	}
	return l
}

func wantDecode(t *testing.T, name string, b []byte, want []api.Row, err api.Errno) {
	t.Helper()
	if got, e := Decode(b); !slices.Equal(got, want) || e != err {
		t.Fatalf("%s: Decode of %d bytes %.60q is %.60s, %v; want %.60s, %v", name, len(b), b, told(got), e, told(want), err)
	}
}

// told: rows as a text for people.
func told(l []api.Row) string {
	var parts []string
	for _, r := range l {
		parts = append(parts, strconv.Itoa(r.Table)+":"+strconv.Quote(r.Key)+"="+strconv.Quote(r.Value))
	}
	return strings.Join(parts, " ")
}

// exports are rows that rise, of every kind that the document names.
func exports() map[string][]api.Row {
	all := map[string][]api.Row{
		"none":                    nil,
		"of empty texts":          {{}},
		"of empty texts, table 3": {{Table: 3}},
		"an empty key":            {{Table: 1, Value: "v"}},
		"an empty key in each":    {{}, {Table: 1, Value: "x"}, {Table: 2}, {Table: 3, Value: "y"}},
		"an empty key, then more": {{Table: 2}, {Table: 2, Key: "\x00"}, {Table: 2, Key: "\x00\x00"}, {Table: 2, Key: "a"}},
		"an empty value":          {{Table: 2, Key: "k"}},
		"the longest":             {{Table: 3, Key: longKey, Value: longValue}},
		"the longest key":         {{Key: longKey}},
		"the longest value":       {{Value: longValue}},
		"no text":                 {{Table: 1, Key: "\x00\xff\xfe\x80", Value: "\xc3(\x00\x01\xff"}},
		"zeros":                   {{Key: strings.Repeat("\x00", 15), Value: strings.Repeat("\x00", 21)}},
		"all ones":                {{Table: 3, Key: strings.Repeat("\xff", 15), Value: strings.Repeat("\xff", 21)}},
		"like an export":          {{Key: "TNM1", Value: "TNM1\x00\x00"}},
		"one key, four tables":    {{Key: "a", Value: "4"}, {Table: 1, Key: "a", Value: "3"}, {Table: 2, Key: "a", Value: "2"}, {Table: 3, Key: "a", Value: "1"}},
		"bytes, not letters":      {{Key: "A"}, {Key: "Z"}, {Key: "a"}, {Key: "a\x00"}, {Key: "aa"}, {Key: "b"}, {Key: "\x7f"}, {Key: "\x80"}, {Key: "ß"}, {Key: "\xff"}},
		"keys fall by table":      {{Key: "z"}, {Table: 1, Key: "m"}, {Table: 3, Key: "a"}},
	}
	for n := 1; n <= few; n++ {
		all[strconv.Itoa(n)] = ladder(n)
	}
	return all
}

func TestEncodeKnown(t *testing.T) {
	for _, c := range []struct {
		l    []api.Row
		want string
	}{
		// These sums were worked out beside the program, by the CRC-32 of zlib.
		{nil, "TNM1\x00\x00\x8d\xc9\x02\x2d"},
		{[]api.Row{}, "TNM1\x00\x00\x8d\xc9\x02\x2d"},
		{[]api.Row{{}}, "TNM1\x00\x01\x00\x00\x00\xa7\xe6\x73\xdf"},
		{[]api.Row{{Key: "a", Value: "1"}, {Table: 1}}, "TNM1\x00\x02\x00\x01a\x011\x01\x00\x00\xd0\x43\xa1\x16"},
		{[]api.Row{{Table: 3, Key: longKey, Value: longValue}}, "TNM1\x00\x01\x03\x0f" + longKey + "\x15" + longValue + "\x2f\x51\x20\x66"},
		{[]api.Row{{Table: 2, Key: "\xff\x00", Value: "ß"}}, "TNM1\x00\x01\x02\x02\xff\x00\x02\xc3\x9f\xda\x82\x6b\x63"},
	} {
		if got := string(Encode(c.l)); got != c.want {
			t.Errorf("Encode of %s is %q, want %q", told(c.l), got, c.want)
		}
		wantDecode(t, "known", []byte(c.want), c.l, api.OK)
	}
}

func TestRowsComeBack(t *testing.T) {
	for name, l := range exports() {
		b := Encode(l)
		if !bytes.Equal(b, byHand(l...)) {
			t.Errorf("%s: Encode is %q, want %q", name, b, byHand(l...))
		}
		wantDecode(t, name, b, l, api.OK)
	}
}

// All lengths of keys and values, each in a row between two others, so that a wrong length shows in what follows.
func TestEveryLength(t *testing.T) {
	for key := range 16 {
		for value := range 22 {
			l := []api.Row{{Table: 1, Key: "", Value: "x"}, {Table: 2, Key: longKey[:key], Value: longValue[:value]}, {Table: 3}}
			if b := Encode(l); !bytes.Equal(b, byHand(l...)) {
				t.Fatalf("Encode of a key of %d and a value of %d bytes is %q", key, value, b)
			}
			wantDecode(t, "between", byHand(l...), l, api.OK)
		}
	}
}

func TestQuota(t *testing.T) {
	for _, n := range []int{1, few - 1, few} {
		wantDecode(t, "few", byHand(ladder(n)...), ladder(n), api.OK)
	}
	for _, n := range []int{few + 1, few + 2, 60, 255, 256, 257, 286, 287, 1000, many} {
		l := ladder(n)
		b := Encode(l)
		if !bytes.Equal(b, byHand(l...)) {
			t.Errorf("Encode of %d rows isn't what the document says", n)
		}
		wantDecode(t, strconv.Itoa(n), b, nil, api.ErrQuota)
	}
}

// Of rows that are too many and wrong besides, the fault that the document names first is told.
func TestFormAheadOfQuota(t *testing.T) {
	swap := func(l []api.Row) { l[few], l[few-1] = l[few-1], l[few] }
	for name, spoil := range map[string]func([]api.Row){
		"the last two swapped":  swap,
		"the first twice":       func(l []api.Row) { l[1] = l[0] },
		"the last twice":        func(l []api.Row) { l[few-1] = l[few] },
		"the last not valid":    func(l []api.Row) { l[few].Table = 4 },
		"the last key too long": func(l []api.Row) { l[few].Key += longKey },
	} {
		l := ladder(few + 1)
		spoil(l)
		wantDecode(t, name, byHand(l...), nil, api.ErrForm)
	}
	right := byHand(ladder(few + 1)...)
	wantDecode(t, "cut", right[:len(right)-1], nil, api.ErrForm)
	wantDecode(t, "more", append(right, 0), nil, api.ErrForm)
	for _, n := range []int{0, 1, few, few + 2, 256 + few + 1, many} {
		wantDecode(t, "another number", summed(body(n, ladder(few+1)...)), nil, api.ErrForm)
	}
}

func TestNoBytes(t *testing.T) {
	wantDecode(t, "nil", nil, nil, api.ErrForm)
	wantDecode(t, "empty", []byte{}, nil, api.ErrForm)
	wantDecode(t, "the sum of nothing", make([]byte, 4), nil, api.ErrForm)
	for n := range 70 {
		wantDecode(t, "zeros", make([]byte, n), nil, api.ErrForm)
		wantDecode(t, "zeros and their sum", summed(strings.Repeat("\x00", n)), nil, api.ErrForm)
	}
}

func TestCutAtAnyPlace(t *testing.T) {
	for name, l := range exports() {
		b := byHand(l...)
		for n := range b {
			wantDecode(t, name, b[:n], nil, api.ErrForm)
			wantDecode(t, name+" from behind", b[n+1:], nil, api.ErrForm)
		}
		said := body(len(l), l...)
		for n := range said {
			wantDecode(t, name+" cut ahead of the sum", summed(said[:n]), nil, api.ErrForm)
		}
	}
}

func TestMoreBehind(t *testing.T) {
	for name, l := range exports() {
		b, said := byHand(l...), body(len(l), l...)
		for _, more := range []string{"\x00", "\x01", "\xff", "\x00\x00\x00", "\x03\x00\x00", "\x00\x00\x00\x00", "TNM1", string(b[len(b)-4:]), string(b)} {
			wantDecode(t, name+" and more", slices.Concat(b, []byte(more)), nil, api.ErrForm)
			wantDecode(t, name+" and more, with a sum", summed(said+more), nil, api.ErrForm)
			wantDecode(t, name+" behind more", slices.Concat([]byte(more), b), nil, api.ErrForm)
		}
	}
}

func TestAnotherHead(t *testing.T) {
	for name, l := range exports() {
		rest := body(len(l), l...)[4:]
		for _, head := range []string{"\x00\x00\x00\x00", "tnm1", "TNM2", "TNM0", "TNMl", "TMN1", "1MNT", "SNM1", "TNM\x01", "", "T", "TNM", " TNM1", "TNM11", "TNM1TNM1"} {
			wantDecode(t, name+" behind "+head, summed(head+rest), nil, api.ErrForm)
		}
	}
	for at := range 4 {
		for x := range 256 {
			said := []byte(body(1, api.Row{Table: 1, Key: "a", Value: "b"}))
			if int(said[at]) == x {
				continue
			}
			said[at] = byte(x)
			wantDecode(t, "head", summed(string(said)), nil, api.ErrForm)
		}
	}
}

func TestOneBitTurned(t *testing.T) {
	for name, l := range exports() {
		for at := range byHand(l...) {
			for bit := range 8 {
				b := byHand(l...)
				b[at] ^= 1 << bit
				wantDecode(t, name, b, nil, api.ErrForm)
			}
		}
	}
}

func TestAnotherNumber(t *testing.T) {
	for name, l := range exports() {
		for _, n := range []int{0, 1, 2, len(l) - 1, len(l) + 1, few, few + 1, 255, len(l) + 256, len(l) << 8, 1 << 15, many} {
			if n != len(l) && n >= 0 {
				wantDecode(t, name, summed(body(n, l...)), nil, api.ErrForm)
			}
		}
	}
	// No rows at all, but every number of them.
	for n := 1; n <= many; n += 251 {
		wantDecode(t, "none", summed(body(n)), nil, api.ErrForm)
	}
}

func TestRowsThatDoNotRise(t *testing.T) {
	for name, l := range map[string][]api.Row{
		"the same twice":          {{Table: 1, Key: "a", Value: "x"}, {Table: 1, Key: "a", Value: "x"}},
		"the same, other values":  {{Table: 1, Key: "a", Value: "x"}, {Table: 1, Key: "a", Value: "y"}},
		"the same, values fall":   {{Table: 1, Key: "a", Value: "y"}, {Table: 1, Key: "a", Value: "x"}},
		"empty texts twice":       {{}, {}},
		"empty texts, table 3":    {{Table: 3}, {Table: 3}},
		"tables fall":             {{Table: 1, Key: "a"}, {Key: "b"}},
		"tables fall, no texts":   {{Table: 3}, {Table: 2}},
		"keys fall":               {{Key: "b"}, {Key: "a"}},
		"longer first":            {{Key: "aa"}, {Key: "a"}},
		"an empty key behind one": {{Key: "\x00"}, {}},
		"keys fall as bytes":      {{Key: "\x80"}, {Key: "\x7f"}},
		"the longest twice":       {{Table: 3, Key: longKey, Value: longValue}, {Table: 3, Key: longKey, Value: longValue}},
		"the last of many":        {{Key: "a"}, {Key: "b"}, {Key: "c"}, {Key: "b"}},
		"the first of many":       {{Key: "b"}, {Key: "a"}, {Key: "c"}, {Key: "d"}},
		"one twice, apart":        {{Key: "a"}, {Key: "b"}, {Key: "a"}},
		"in the middle":           {{Key: "a"}, {Table: 1, Key: "x"}, {Table: 1, Key: "x"}, {Table: 2}},
	} {
		wantDecode(t, name, byHand(l...), nil, api.ErrForm)
	}
	for at := range few - 1 {
		l := ladder(few)
		l[at], l[at+1] = l[at+1], l[at]
		wantDecode(t, "swapped", byHand(l...), nil, api.ErrForm)
		l = ladder(few)
		l[at+1] = l[at]
		wantDecode(t, "twice", byHand(l...), nil, api.ErrForm)
	}
}

// Every place of a row that may not be, among rows that may.
func TestRowsThatMayNotBe(t *testing.T) {
	for name, spoil := range map[string]func(*api.Row){
		"table 4":            func(r *api.Row) { r.Table = 4 },
		"table 5":            func(r *api.Row) { r.Table = 5 },
		"table 128":          func(r *api.Row) { r.Table = 128 },
		"table 255":          func(r *api.Row) { r.Table = 255 },
		"a key of 16":        func(r *api.Row) { r.Key = (r.Key + longKey + "f")[:16] },
		"a key of 128":       func(r *api.Row) { r.Key += strings.Repeat("k", 128-len(r.Key)) },
		"a key of 255":       func(r *api.Row) { r.Key += strings.Repeat("k", 255-len(r.Key)) },
		"a value of 22":      func(r *api.Row) { r.Value = longValue + "l" },
		"a value of 128":     func(r *api.Row) { r.Value = strings.Repeat("v", 128) },
		"a value of 255":     func(r *api.Row) { r.Value = strings.Repeat("v", 255) },
		"both too long by 1": func(r *api.Row) { r.Key, r.Value = (r.Key + longKey + "f")[:16], longValue+"l" },
	} {
		for _, n := range []int{1, 2, 5, few} {
			for at := range n {
				l := ladder(n)
				spoil(&l[at])
				wantDecode(t, name, byHand(l...), nil, api.ErrForm)
			}
		}
	}
}

// A text that reaches behind the end, or over what is behind it, whatever the check sum says.
func TestTextsBehindTheEnd(t *testing.T) {
	for _, tail := range []string{
		"", "\x00", "\x00\x01", "\x00\x00", "\x00\x01a", "\x00\x00\x01", "\x01\x01a\x01", "\x01\x02a", "\x01\x0f" + longKey[:14],
		"\x01\x01a\x02b", "\x01\x0f" + longKey + "\x15" + longValue[:20], "\x01\x00\x15", "\x00\xff", "\x00\x00\xff", "\x03\x04abcd", "\x00\x04\x00",
		"\x01\x01a\x05b", "\x01\x01a\x04",
	} {
		for n := range 3 {
			said := body(n+1, ladder(n)...) + tail
			wantDecode(t, "behind the end", summed(said), nil, api.ErrForm)
			// The rows ahead of it and this one, with bytes for the check sum to be taken as part of a text.
			wantDecode(t, "without a sum", []byte(said), nil, api.ErrForm)
		}
	}
	// The text takes the check sum's place, or a part of it.
	for size := 1; size <= 12; size++ {
		b := summed("TNM1\x00\x01\x00\x00" + string([]byte{byte(size)}))
		wantDecode(t, "over the sum", b, nil, api.ErrForm)
		wantDecode(t, "over the sum, and four more", append(b, 0, 0, 0, 0), nil, api.ErrForm)
	}
}

// Every byte of an encoding changed to every other one, with a right check sum: it tells what the document says by hand.
func TestEveryByteElse(t *testing.T) {
	right := 0
	for _, l := range [][]api.Row{
		nil, {{}}, {{Table: 1, Key: "b", Value: "xy"}}, {{}, {Table: 1, Key: "\x00\x00", Value: "\x00"}, {Table: 1, Key: "\x01"}},
		{{Table: 3, Key: longKey, Value: longValue}}, {{Key: "\x01a\x00\x00"}, {Key: "\x01b\x01\x01"}, {Table: 2, Value: "\x00\x00\x00\x00"}}, ladder(12),
	} {
		said := body(len(l), l...)
		for at := range said {
			for x := range 256 {
				changed := []byte(said)
				changed[at] = byte(x)
				b := summed(string(changed))
				want, err := decodeByHand(b)
				wantDecode(t, "a byte", b, want, err)
				if err == api.OK && string(changed) != said {
					right++
				}
			}
		}
	}
	if right < 1000 {
		t.Errorf("only %d of the changes made other rows", right)
	}
}

// A key of any length, over bytes that count down to the end, so that behind each key stands the length of what is left.
func TestEveryKeyThenTheRest(t *testing.T) {
	right := 0
	for key := range 256 {
		for size := range 60 {
			said := []byte("TNM1\x00\x01\x02" + string([]byte{byte(key)}))
			for left := size - 1; left >= 0; left-- {
				said = append(said, byte(left))
			}
			b := summed(string(said))
			want, err := decodeByHand(b)
			wantDecode(t, "a key and the rest", b, want, err)
			if err == api.OK {
				right++
			}
		}
	}
	// Each key with each value.
	if right != 16*22 {
		t.Errorf("%d of them were rows", right)
	}
}

// Short bodies of few kinds of bytes, all of them, and long ones by a fixed seed, against the document by hand.
func TestAnyBytes(t *testing.T) {
	told := map[api.Errno]int{}
	check := func(said string) {
		b := summed(said)
		want, err := decodeByHand(b)
		wantDecode(t, "any", b, want, err)
		told[err]++
	}
	for n, kinds := 1, 3; n <= 8; n++ {
		all := 1
		for range n {
			all *= kinds
		}
		for number := range all {
			tail := make([]byte, n)
			for at := range tail {
				tail[at], number = byte(number%kinds), number/kinds
			}
			check("TNM1\x00\x01" + string(tail))
			check("TNM1\x00\x02" + string(tail))
			check("TNM1\x00" + string(tail))
		}
	}
	chance := rand.New(rand.NewSource(14))
	for range 20000 {
		l := ladder(1 + chance.Intn(few+2))
		said := []byte(body(len(l), l...))
		for range chance.Intn(3) {
			said[chance.Intn(len(said))] = byte(chance.Intn(24))
		}
		check(string(said))
	}
	if told[api.OK] < 1000 || told[api.ErrForm] < 1000 || told[api.ErrQuota] < 100 || len(told) != 3 {
		t.Errorf("%v", told)
	}
}

// The document says nothing of the bytes of rows that are not valid, or don't rise, or are too many to be counted, but the call must end, and nothing may take them for rows.
func TestEncodeOfWhatHasNoEncoding(t *testing.T) {
	for _, l := range [][]api.Row{
		{{Table: -1}}, {{Table: 4}}, {{Table: 255}}, {{Table: 256}}, {{Table: 257}}, {{Table: math.MinInt}}, {{Table: math.MaxInt}}, {{Table: 1<<32 + 1}},
		{{Key: longKey + "f"}}, {{Value: longValue + "l"}}, {{Key: strings.Repeat("\x00", 256)}}, {{Value: strings.Repeat("\x00", 256)}},
		{{Key: strings.Repeat("k", 70000), Value: strings.Repeat("v", 70000)}},
		{{Key: "b"}, {Key: "a"}}, {{Key: "a"}, {Key: "a"}}, {{}, {}}, {{Table: 1}, {}},
		{{}, {Table: 1, Key: longKey + "f"}, {Table: 2}}, {{Table: -1}, {}}, {{}, {Table: 4}},
		slices.Concat(ladder(few+1), ladder(few+1)),
	} {
		if got, e := Decode(Encode(l)); e != api.ErrForm || len(got) > 0 {
			t.Errorf("Encode of %.200s tells %s, %v", told(l), told(got), e)
		}
	}
	// The number in two bytes would be 0, 1 and 30.
	for _, n := range []int{many + 1, many + 2, many + 1 + few} {
		var l []api.Row
		for i := range n {
			l = append(l, api.Row{Key: string([]byte{byte(i >> 16), byte(i >> 8), byte(i)})})
		}
		if got, e := Decode(Encode(l)); e != api.ErrForm || len(got) > 0 {
			t.Errorf("Encode of %d rows tells %d rows, %v", n, len(got), e)
		}
	}
}

func TestAnswersAreNew(t *testing.T) {
	l := []api.Row{{Key: "a", Value: "1"}, {Table: 1, Key: "b"}}
	one, two := Encode(l), Encode(l)
	clear(one[:cap(one)])
	if !bytes.Equal(two, byHand(l...)) || !bytes.Equal(Encode(l), byHand(l...)) {
		t.Error("what is written into an answer changes another one")
	}
	first, _ := Decode(two)
	second, _ := Decode(two)
	clear(first[:cap(first)])
	if !slices.Equal(second, l) {
		t.Errorf("what is written into rows changes others: %s", told(second))
	}
	none := Encode(nil)
	clear(none[:cap(none)])
	if !bytes.Equal(Encode(nil), byHand()) {
		t.Error("what is written into an answer changes that of no rows")
	}
}

func TestArgumentsStay(t *testing.T) {
	all := []api.Row{{Key: "a", Value: "1"}, {Table: 1, Key: "b"}, {Table: 3, Key: "behind"}}
	kept := slices.Clone(all)
	b := Encode(all[:2])
	if !slices.Equal(all, kept) || !bytes.Equal(b, byHand(kept[:2]...)) {
		t.Errorf("the rows are now %s, the bytes %q", told(all), b)
	}
	whole := append(byHand(kept[:2]...), "behind"...)
	copied := bytes.Clone(whole)
	l, e := Decode(whole[:len(b)])
	if e != api.OK || !bytes.Equal(whole, copied) {
		t.Errorf("%v; the bytes are now %q", e, whole)
	}
	clear(whole)
	clear(all)
	if !slices.Equal(l, kept[:2]) || !bytes.Equal(b, byHand(kept[:2]...)) {
		t.Errorf("the answers change with the arguments: %s, %q", told(l), b)
	}
}
