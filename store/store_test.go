package store

import (
	"math"
	"slices"
	"strconv"
	"testing"

	"tenement/api"
	"tenement/disk"
	"tenement/row"
)

func newStore(t *testing.T) (*disk.Disk, *Store) {
	t.Helper()
	d := disk.New(1, api.Region)
	s, e := New(d, 0)
	if e != api.OK {
		t.Fatal(e)
	}
	return d, s
}

func slot(r api.Row) string { return string(row.Encode(r)) }

// A step is a call, and what it has to answer.
type step struct {
	op
	want answer
}

func ok(o op) step                     { return step{op: o} }
func fails(o op, e api.Errno) step     { return step{o, answer{err: e}} }
func reads(o op, value string) step    { return step{o, answer{value: value}} }
func begun() step                      { return numbers(begin(), 1) }
func lists(o op, rows ...api.Row) step { return step{o, answer{rows: rows}} }
func numbers(o op, n int) step         { return step{o, answer{n: n}} }
func is(key, value string) api.Row     { return api.Row{Key: key, Value: value} }
func at(table int, o op) op            { o.row.Table = table; return o }
func in(table int, r api.Row) api.Row  { r.Table = table; return r }
func joined(l ...[]step) []step        { return slices.Concat(l...) }
func more(l []step, on ...step) []step { return slices.Concat(l, on) }
func have(key, value string) []step    { return stored(is(key, value)) }
func locked(l ...op) []step            { return each(l, api.ErrLocked) }
func allOK(l ...op) []step             { return each(l, api.OK) }
func each(l []op, e api.Errno) []step  { return mapped(l, func(o op) step { return fails(o, e) }) }
func puts(txn int, keys ...string) []op {
	return mapped(keys, func(k string) op { return put(txn, k, "v") })
}

func mapped[A, B any](l []A, f func(A) B) []B {
	var all []B
	for _, a := range l {
		all = append(all, f(a))
	}
	return all
}

// stored: a transaction that puts these rows, and commits.
func stored(rows ...api.Row) []step {
	l := []step{begun()}
	for _, r := range rows {
		l = append(l, ok(op{name: "put", txn: 1, row: r}))
	}
	return append(l, ok(commit(1)))
}

// keys: so many, each of two letters, in order.
func keys(n int) []string {
	var all []string
	for i := range n {
		all = append(all, string(rune('a'+i/26))+string(rune('a'+i%26)))
	}
	return all
}

// full: transactions that fill all slots.
func full() []step {
	var l []step
	for part := range slices.Chunk(keys(places), api.MaxOps) {
		l = append(l, begun())
		l = append(l, allOK(puts(1, part...)...)...)
		l = append(l, ok(commit(1)))
	}
	return l
}

// A story is calls one behind the other, and the rows behind all of them.
type story struct {
	name  string
	steps []step
	rows  []api.Row
}

func tell(t *testing.T, stories []story) {
	for _, s := range stories {
		t.Run(s.name, func(t *testing.T) {
			w := newWorld(t)
			for i, step := range s.steps {
				if got := w.call(step.op); !same(got, step.want) {
					t.Fatalf("%d: %v: %v; want %v", i, step.op, got, step.want)
				}
			}
			if got := w.s.Rows(); !slices.Equal(got, s.rows) {
				t.Errorf("rows %v; want %v", got, s.rows)
			}
		})
	}
}

func TestReadPutDel(t *testing.T) {
	long := is("fifteen letters", "twenty-one letters...")
	both := is("", "")
	tell(t, []story{
		{"nothing", nil, nil},
		{"no key", []step{begun(), fails(read(1, "a"), api.ErrNone), fails(del(1, "a"), api.ErrNone)}, nil},
		{"put", []step{begun(), ok(put(1, "a", "x")), reads(read(1, "a"), "x"), fails(read(1, "b"), api.ErrNone)}, []api.Row{is("a", "x")}},
		{"put over", []step{begun(), ok(put(1, "a", "x")), ok(put(1, "a", "y")), reads(read(1, "a"), "y")}, []api.Row{is("a", "y")}},
		{"del", []step{begun(), ok(put(1, "a", "x")), ok(del(1, "a")), fails(read(1, "a"), api.ErrNone), fails(del(1, "a"), api.ErrNone)}, nil},
		{"put behind del", []step{begun(), ok(put(1, "a", "x")), ok(del(1, "a")), ok(put(1, "a", "y")), reads(read(1, "a"), "y")}, []api.Row{is("a", "y")}},
		{"of another transaction", joined(have("a", "x"), []step{begun(), reads(read(1, "a"), "x"), ok(del(1, "a")), ok(commit(1))}), nil},
		{"the longest", joined(stored(long), []step{begun(), reads(read(1, long.Key), long.Value)}), []api.Row{long}},
		{"the shortest", joined(stored(both), []step{begun(), reads(read(1, ""), ""), fails(read(1, "\x00"), api.ErrNone)}), []api.Row{both}},
		{"bytes that are no text", joined(have("\x00", "\xff"), have("\xff\x00", "\x00")), []api.Row{is("\x00", "\xff"), is("\xff\x00", "\x00")}},
		{"one key in two tables", joined(stored(in(3, is("a", "z")), is("a", "x")), []step{
			begun(), reads(read(1, "a"), "x"), reads(at(3, read(1, "a")), "z"), fails(at(1, read(1, "a")), api.ErrNone),
			ok(del(1, "a")), reads(at(3, read(1, "a")), "z"), ok(at(3, put(1, "a", "y"))), fails(read(1, "a"), api.ErrNone),
		}), []api.Row{in(3, is("a", "y"))}},
		{"in the order of Less", stored(in(1, is("a", "1")), is("b", "2"), is("", "3"), in(3, is("", "4")), is("aa", "5"), is("a", "6"), in(1, is("B", "7"))),
			[]api.Row{is("", "3"), is("a", "6"), is("aa", "5"), is("b", "2"), in(1, is("B", "7")), in(1, is("a", "1")), in(3, is("", "4"))}},
	})
}

func TestScan(t *testing.T) {
	all := joined(stored(is("b", "2"), is("a", "1"), is("d", "4"), is("bb", "3"), in(1, is("b", "5"))), []step{begun()})
	rows := []api.Row{is("a", "1"), is("b", "2"), is("bb", "3"), is("d", "4"), in(1, is("b", "5"))}
	tell(t, []story{
		{"both ends", more(all, lists(scan(1, "b", "bb"), rows[1], rows[2])), rows},
		{"between keys", more(all, lists(scan(1, "aa", "c"), rows[1], rows[2])), rows},
		{"all", more(all, lists(scan(1, "", "z"), rows[:4]...)), rows},
		{"one", more(all, lists(scan(1, "d", "d"), rows[3])), rows},
		{"none", more(all, lists(scan(1, "c", "cz"))), rows},
		{"the end ahead", more(all, lists(scan(1, "d", "a"))), rows},
		{"another table", more(all, lists(at(1, scan(1, "", "z")), rows[4])), rows},
		{"without rows", more(all, lists(at(2, scan(1, "", "z")))), rows},
		{"its own changes", more(all, ok(put(1, "c", "6")), ok(del(1, "b")), ok(put(1, "a", "7")), lists(scan(1, "a", "c"), is("a", "7"), rows[2], is("c", "6"))),
			[]api.Row{is("a", "7"), rows[2], is("c", "6"), rows[3], rows[4]}},
	})
}

// with: two transactions behind a commit of a and b.
func with(l ...step) []step {
	return joined(stored(is("a", "1"), is("b", "2")), []step{begun(), numbers(begin(), 2)}, l)
}

func TestLocks(t *testing.T) {
	rows := []api.Row{is("a", "1"), is("b", "2")}
	change := is("a", "x")
	tell(t, []story{
		{"put", with(joined(allOK(put(1, "a", "x")), locked(read(2, "a"), put(2, "a", "y"), del(2, "a"), scan(2, "", "")), []step{reads(read(2, "b"), "2"), ok(put(2, "b", "2"))})...), []api.Row{change, rows[1]}},
		{"put of none", with(joined(allOK(put(1, "c", "x")), locked(read(2, "c"), put(2, "c", "y"), del(2, "c"), scan(2, "a", "a")), []step{reads(read(2, "b"), "2")})...), append(rows[:2:2], is("c", "x"))},
		{"del", with(joined(allOK(del(1, "a")), locked(read(2, "a"), put(2, "a", "y"), del(2, "a"), scan(2, "b", "b")), allOK(del(2, "b")))...), nil},
		{"read", with(joined([]step{reads(read(1, "a"), "1")}, locked(put(2, "a", "y"), del(2, "a")), []step{reads(read(2, "a"), "1"), lists(scan(2, "a", "a"), rows[0])})...), rows},
		{"scan", with(joined([]step{lists(scan(1, "b", "b"), rows[1])}, locked(put(2, "a", "y"), put(2, "z", "y"), del(2, "a"), del(2, "z")),
			[]step{reads(read(2, "a"), "1"), lists(scan(2, "a", "a"), rows[0]), ok(at(1, put(2, "a", "y"))), fails(at(1, del(2, "z")), api.ErrNone)})...), append(rows[:2:2], in(1, is("a", "y")))},
		{"its own", with(reads(read(1, "a"), "1"), ok(put(1, "a", "x")), lists(scan(1, "a", "a"), change), ok(put(1, "a", "1")), ok(del(1, "b")), reads(read(1, "a"), "1")), rows[:1]},
		{"another table", with(ok(put(1, "a", "x")), ok(at(1, put(2, "a", "y"))), lists(at(2, scan(2, "", "z"))), fails(at(3, read(2, "a")), api.ErrNone)), []api.Row{change, rows[1], in(1, is("a", "y"))}},
		{"a refused call holds nothing", with(joined(allOK(put(1, "a", "x")), locked(put(2, "a", "y")), []step{lists(scan(1, "b", "b"), rows[1])})...), []api.Row{change, rows[1]}},
		{"a read of none", with(joined([]step{fails(read(1, "c"), api.ErrNone)}, locked(put(2, "c", "x"), del(2, "c")), []step{fails(read(2, "c"), api.ErrNone)})...), rows},
		{"a del of none", with(joined([]step{fails(del(1, "c"), api.ErrNone)}, locked(read(2, "c"), put(2, "c", "x"), del(2, "c"), scan(2, "", "")))...), rows},
		{"behind commit", with(joined(allOK(put(1, "a", "x"), commit(1)), []step{reads(read(2, "a"), "x"), ok(put(2, "a", "y"))})...), []api.Row{is("a", "y"), rows[1]}},
		{"behind abort", with(joined(allOK(put(1, "a", "x"), abort(1)), []step{reads(read(2, "a"), "1"), ok(put(2, "a", "y"))})...), []api.Row{is("a", "y"), rows[1]}},
		{"behind back", with(joined([]step{numbers(save(1), 1)}, allOK(put(1, "a", "x"), back(1, 1)), locked(read(2, "a"), scan(2, "", "")))...), rows},
		{"behind commit of nothing", with(joined([]step{reads(read(1, "a"), "1"), lists(scan(1, "b", "b"), rows[1])}, locked(put(2, "a", "y")), allOK(commit(1), put(2, "a", "y")))...), []api.Row{is("a", "y"), rows[1]}},
		{"behind abort of nothing", with(joined([]step{reads(read(1, "a"), "1"), lists(scan(1, "b", "b"), rows[1])}, locked(put(2, "a", "y")), allOK(abort(1), put(2, "a", "y")))...), []api.Row{is("a", "y"), rows[1]}},
		{"behind a crash", with(joined(allOK(put(1, "a", "x"), crash(-1)), []step{begun(), numbers(begin(), 2), reads(read(2, "a"), "1"), ok(put(2, "a", "y"))})...), []api.Row{is("a", "y"), rows[1]}},
		{"of the others alone are kept", with(joined(allOK(put(1, "a", "x"), put(2, "b", "y"), commit(2)), []step{numbers(begin(), 2)}, locked(read(2, "a")), []step{reads(read(2, "b"), "y")})...), []api.Row{change, is("b", "y")}},
	})
}

// eight: as many changes as a transaction may have, and a key that it has locked in vain.
func eight(more ...step) []step {
	return joined([]step{begun(), numbers(begin(), 2), numbers(save(1), 1)}, allOK(puts(1, keys(8)...)...), more)
}

func TestFull(t *testing.T) {
	var rows []api.Row
	for _, k := range keys(8) {
		rows = append(rows, is(k, "v"))
	}
	tell(t, []story{
		{"one more", eight(fails(put(1, "z", "v"), api.ErrFull), fails(put(1, "aa", "v"), api.ErrFull), fails(del(1, "aa"), api.ErrFull), reads(read(1, "aa"), "v")), rows},
		{"del of none", eight(fails(del(1, "z"), api.ErrNone)), rows},
		{"the key is locked", eight(joined([]step{fails(put(1, "y", "v"), api.ErrFull)}, locked(read(2, "y")))...), rows},
		{"of another one's", eight(joined([]step{ok(put(2, "x", "v"))}, locked(put(1, "x", "v"), del(1, "x"), read(1, "x")))...), append(rows[:8:8], is("x", "v"))},
		{"behind back", eight(ok(back(1, 1)), fails(put(1, "aa", "v"), api.ErrFull), fails(del(1, "aa"), api.ErrNone)), nil},
		{"the others aren't", eight(ok(put(2, "x", "v"))), append(rows[:8:8], is("x", "v"))},
		{"the next one isn't", eight(ok(commit(1)), begun(), ok(del(1, "aa"))), rows[1:]},
		{"dels", joined(stored(rows...), []step{begun()}, allOK(mapped(keys(8), func(k string) op { return del(1, k) })...),
			[]step{fails(del(1, "aa"), api.ErrNone), fails(put(1, "aa", "v"), api.ErrFull)}), nil},
		{"changes of one row", joined([]step{begun()}, allOK(slices.Repeat([]op{put(1, "a", "v")}, 8)...), []step{fails(put(1, "a", "w"), api.ErrFull)}), []api.Row{is("a", "v")}},
	})
}

func TestQuota(t *testing.T) {
	var rows []api.Row
	for _, k := range keys(places) {
		rows = append(rows, is(k, "v"))
	}
	two := joined(full(), []step{begun(), numbers(begin(), 2)})
	but := func(n int, r ...api.Row) []api.Row { return slices.Concat(rows[:n], rows[n+1:], r) }
	tell(t, []story{
		{"all slots", full(), rows},
		{"one more", more(two, fails(put(1, "z", "v"), api.ErrQuota), fails(at(3, put(1, "", "")), api.ErrQuota)), rows},
		{"the key is locked", more(two, fails(put(1, "z", "v"), api.ErrQuota), fails(read(2, "z"), api.ErrLocked), fails(scan(2, "z", "z"), api.ErrLocked)), rows},
		{"a key that there is", more(two, fails(put(1, "z", "v"), api.ErrQuota), ok(put(1, keys(places)[12], "w"))), slices.Concat(rows[:12], []api.Row{is(rows[12].Key, "w")}, rows[13:])},
		{"behind del", more(two, ok(del(1, rows[7].Key)), ok(commit(1)), ok(put(2, "z", "w")), fails(put(2, "zz", "w"), api.ErrQuota)), but(7, is("z", "w"))},
		{"behind its own del", more(two, ok(del(1, rows[7].Key)), fails(put(1, "z", "w"), api.ErrQuota), fails(put(1, rows[7].Key, "v"), api.ErrQuota)), but(7)},
		{"behind another one's del", more(two, ok(del(1, rows[7].Key)), fails(put(2, "z", "w"), api.ErrQuota)), but(7)},
		{"behind an aborted del", more(two, ok(del(1, rows[7].Key)), ok(abort(1)), fails(put(2, "z", "w"), api.ErrQuota)), rows},
		{"behind a crash in a del", more(two, ok(del(1, rows[7].Key)), ok(crash(-1)), begun(), fails(put(1, "z", "w"), api.ErrQuota)), rows},
		{"full ahead of quota", more(two, joined(allOK(slices.Repeat([]op{put(1, "aa", "v")}, 8)...), []step{fails(put(1, "z", "v"), api.ErrFull)})...), rows},
	})
}

func TestBack(t *testing.T) {
	// a is changed, b is deleted, c is new; and all of that once more behind a second savepoint.
	behind := with(numbers(save(1), 1), ok(put(1, "a", "x")), ok(del(1, "b")), ok(put(1, "c", "y")), numbers(save(1), 2), ok(put(1, "a", "z")), ok(del(1, "c")), ok(put(1, "b", "w")))
	zero := []api.Row{is("a", "1"), is("b", "2")}
	one := []api.Row{is("a", "x"), is("c", "y")}
	two := []api.Row{is("a", "z"), is("b", "w")}
	on := func(l ...step) []step { return more(behind, l...) }
	tell(t, []story{
		{"all", on(), two},
		{"to the second", on(ok(back(1, 2))), one},
		{"to the first", on(ok(back(1, 1))), zero},
		{"twice to the second", on(ok(back(1, 2)), ok(put(1, "a", "v")), ok(back(1, 2))), one},
		{"twice to the second, at once", on(ok(back(1, 2)), ok(back(1, 2))), one},
		{"twice to the first", on(ok(back(1, 1)), ok(put(1, "a", "v")), ok(back(1, 1))), zero},
		{"to one, then to the other", on(ok(back(1, 2)), ok(back(1, 1))), zero},
		{"to one that is gone", on(ok(back(1, 1)), ok(put(1, "c", "y")), fails(back(1, 2), api.ErrNone)), append(zero[:2:2], is("c", "y"))},
		{"to none", on(fails(back(1, 0), api.ErrNone), fails(back(1, 3), api.ErrNone), fails(back(1, -1), api.ErrNone), fails(back(1, math.MaxInt), api.ErrNone), fails(back(1, 1<<32+1), api.ErrNone)), two},
		{"to another one's", on(fails(back(2, 1), api.ErrNone)), two},
		{"behind commit", on(ok(back(1, 2)), ok(commit(1)), ok(crash(0))), one},
		{"to nothing, behind commit", on(ok(back(1, 1)), ok(commit(1)), ok(crash(0))), zero},
		{"behind abort", on(ok(back(1, 2)), ok(abort(1))), zero},
		{"behind a crash", on(ok(back(1, 2)), ok(crash(-1))), zero},
		{"and on", on(ok(back(1, 1)), ok(put(1, "d", "u")), ok(commit(1)), ok(crash(0))), append(zero[:2:2], is("d", "u"))},
		{"behind pack", on(ok(pack()), ok(back(1, 2)), ok(pack()), ok(back(1, 1)), ok(commit(1)), ok(crash(0))), zero},
		{"beside another one", on(ok(put(2, "d", "u")), ok(back(1, 1)), ok(commit(2)), ok(crash(0))), append(zero[:2:2], is("d", "u"))},
		{"one without changes", with(numbers(save(1), 1), ok(back(1, 1)), ok(commit(1))), zero},
	})
}

func TestCommitAndAbort(t *testing.T) {
	rows := []api.Row{is("a", "1"), is("b", "2")}
	changes := allOK(put(1, "a", "x"), del(1, "b"), put(1, "c", "y"), put(1, "c", "z"))
	after := []api.Row{is("a", "x"), is("c", "z")}
	others := more(changes, numbers(begin(), 3), ok(at(1, put(2, "d", "u"))), ok(at(1, put(3, "e", "u"))))
	tell(t, []story{
		{"commit", with(more(changes, ok(commit(1)))...), after},
		{"abort", with(more(changes, ok(abort(1)))...), rows},
		{"commit, crash", with(more(changes, ok(commit(1)), ok(crash(0)))...), after},
		{"abort, crash", with(more(changes, ok(abort(1)), ok(crash(0)))...), rows},
		{"neither, crash", with(more(changes, ok(crash(0)))...), rows},
		{"neither, crash that keeps", with(more(changes, ok(crash(-1)))...), rows},
		{"written, neither, crash", with(more(changes, ok(write(0)), ok(crash(-1)))...), rows},
		{"two crashes", with(more(changes, ok(commit(1)), ok(crash(0)), ok(crash(-1)))...), after},
		{"the number is free", with(ok(commit(1)), begun(), ok(abort(2)), numbers(begin(), 2), numbers(begin(), 3), numbers(begin(), 0)), rows},
		{"behind changes too", with(more(changes, ok(commit(1)), begun(), ok(put(2, "d", "u")), ok(abort(2)), numbers(begin(), 2), numbers(begin(), 3))...), after},
		{"the next one of its number", with(more(changes, ok(commit(1)), begun(), fails(back(1, 1), api.ErrNone), ok(put(1, "d", "u")), ok(abort(1)), ok(crash(0)))...), after},
		{"of three the first", with(more(others, ok(commit(1)), ok(crash(0)))...), after},
		{"of three the second", with(more(others, ok(commit(2)), ok(crash(0)))...), append(rows[:2:2], in(1, is("d", "u")))},
		{"of three two", with(more(others, ok(abort(1)), ok(commit(3)), ok(commit(2)), ok(crash(0)))...), append(rows[:2:2], in(1, is("d", "u")), in(1, is("e", "u")))},
		{"of three all", with(more(others, ok(commit(3)), ok(commit(2)), ok(commit(1)), ok(crash(0)))...), append(after[:2:2], in(1, is("d", "u")), in(1, is("e", "u")))},
		{"of three one is undone", with(more(others, ok(abort(1)))...), append(rows[:2:2], in(1, is("d", "u")), in(1, is("e", "u")))},
	})
}

// What is written when doesn't show.
func TestPointPackWrite(t *testing.T) {
	quiet := allOK(point(), pack(), write(0), write(0), write(-1), write(6), write(math.MinInt), write(math.MaxInt), point())
	tell(t, []story{
		{"without rows", quiet, nil},
		{"with rows", joined(have("a", "x"), quiet, allOK(crash(0))), []api.Row{is("a", "x")}},
		{"behind changes", joined([]step{begun(), ok(put(1, "a", "x"))}, quiet, []step{reads(read(1, "a"), "x")}, quiet), []api.Row{is("a", "x")}},
		{"ahead of commit", joined([]step{begun(), ok(put(1, "a", "x"))}, quiet, allOK(commit(1)), quiet, allOK(crash(0))), []api.Row{is("a", "x")}},
		{"ahead of abort", joined(have("a", "y"), []step{begun(), ok(put(1, "a", "x"))}, quiet, allOK(abort(1)), quiet, allOK(crash(0))), []api.Row{is("a", "y")}},
		{"ahead of a crash", joined(have("a", "y"), []step{begun(), ok(put(1, "a", "x")), ok(put(1, "b", "x"))}, quiet, allOK(crash(-1))), []api.Row{is("a", "y")}},
		{"savepoints stay", joined([]step{begun(), ok(put(1, "a", "x")), numbers(save(1), 1), ok(put(1, "a", "y"))}, quiet, allOK(back(1, 1)), quiet), []api.Row{is("a", "x")}},
		{"locks stay", joined([]step{begun(), numbers(begin(), 2), ok(put(1, "a", "x"))}, quiet, locked(read(2, "a"))), []api.Row{is("a", "x")}},
		{"what is kept stays", joined(have("a", "y"), []step{begun(), ok(del(1, "a")), numbers(begin(), 2)}, quiet, allOK(put(2, "b", "x"), commit(2), abort(1))), []api.Row{is("a", "y"), is("b", "x")}},
		{"full stays", joined(eight(quiet...), []step{fails(put(1, "aa", "v"), api.ErrFull), ok(abort(1))}), nil},
	})
}

// Each row stands in the first slot that wasn't taken, and stays there.
func TestPlaces(t *testing.T) {
	stories := []struct {
		name  string
		steps []step
		want  []string // the key of each slot, up to the last one that is filled
	}{
		{"in order", stored(is("c", ""), is("a", ""), is("b", "")), []string{"c", "a", "b"}},
		{"over pages", joined(stored(is("c", ""), is("a", ""), is("b", ""), is("f", ""), is("e", ""), is("d", ""))), []string{"c", "a", "b", "f", "e", "d"}},
		{"put over", with(ok(put(1, "b", "x")), ok(put(1, "a", "x")), ok(put(1, "c", "x"))), []string{"a", "b", "c"}},
		{"a freed slot", with(ok(del(1, "a")), ok(commit(1)), ok(put(2, "c", "x"))), []string{"c", "b"}},
		{"a slot that isn't free yet", with(ok(del(1, "a")), ok(put(2, "c", "x"))), []string{"", "b", "c"}},
		{"its own", with(ok(del(1, "a")), ok(put(1, "a", "x"))), []string{"", "b", "a"}},
		{"its own, twice", with(ok(del(1, "a")), ok(put(1, "a", "x")), ok(del(1, "a")), ok(put(1, "a", "x"))), []string{"", "b", "", "a"}},
		{"behind its commit", with(ok(del(1, "a")), ok(put(1, "a", "x")), ok(commit(1)), ok(put(2, "c", "x"))), []string{"c", "b", "a"}},
		{"behind its abort", with(ok(del(1, "a")), ok(put(1, "a", "x")), ok(abort(1)), ok(put(2, "c", "x"))), []string{"a", "b", "c"}},
		{"a slot that back freed", with(numbers(save(1), 1), ok(put(1, "c", "x")), ok(back(1, 1)), ok(put(2, "d", "x"))), []string{"a", "b", "d"}},
		{"a slot that another one's abort freed", with(ok(put(1, "c", "x")), ok(put(2, "d", "x")), ok(abort(1)), ok(put(2, "e", "x"))), []string{"a", "b", "e", "d"}},
		{"kept behind pack", with(ok(del(1, "a")), ok(pack()), ok(put(2, "c", "x"))), []string{"", "b", "c"}},
		{"behind a crash", with(ok(del(1, "a")), ok(commit(1)), ok(crash(0)), begun(), ok(put(1, "c", "x"))), []string{"c", "b"}},
		{"of the last page", joined(full(), []step{begun(), ok(del(1, "bc")), ok(del(1, "aa")), ok(commit(1)), begun(), ok(put(1, "x", "")), ok(put(1, "y", ""))}),
			slices.Concat([]string{"x"}, keys(places)[1:28], []string{"y"}, keys(places)[29:])},
	}
	for _, s := range stories {
		t.Run(s.name, func(t *testing.T) {
			w := newWorld(t)
			for i, step := range more(s.steps, ok(pack())) {
				if got := w.call(step.op); !same(got, step.want) {
					t.Fatalf("%d: %v: %v; want %v", i, step.op, got, step.want)
				}
			}
			for i := range places {
				page, want := pageOf(t, w.d, i/api.Slots), ""
				if i < len(s.want) {
					want = s.want[i]
				}
				r, e := row.Decode([]byte(page.Slot(i % api.Slots)))
				if (e == api.OK) != (want != "") || r.Key != want {
					t.Errorf("slot %d has %v; want %q", i, r, want)
				}
			}
		})
	}
}

func TestNewAndOpen(t *testing.T) {
	d := disk.New(3, api.Region)
	for _, r := range []int{-1, 3, math.MinInt, math.MaxInt, 256, 1 << 32} {
		if s, e := New(d, r); s != nil || e != api.ErrBad {
			t.Errorf("New(%d): %v, %v", r, s, e)
		}
		if s, e := Open(d, r); s != nil || e != api.ErrBad {
			t.Errorf("Open(%d): %v, %v", r, s, e)
		}
	}
	if s, e := New(nil, 0); s != nil || e != api.ErrBad {
		t.Errorf("New of no disk: %v, %v", s, e)
	}
	if s, e := Open(nil, 0); s != nil || e != api.ErrBad {
		t.Errorf("Open of no disk: %v, %v", s, e)
	}
	if s, e := Open(d, 2); s != nil || e != api.ErrNone {
		t.Errorf("Open of a region without a lane: %v, %v", s, e)
	}
	if _, e := New(d, 1); e != api.OK {
		t.Fatal(e)
	}
	d.Crash(0)
	for r := range 3 {
		s, e := Open(d, r)
		if r == 1 && (e != api.OK || len(s.Rows()) > 0 || s.Table.Open() > 0 || s.Len() > 0) {
			t.Errorf("Open(1): %v, %v", s, e)
		}
		if r != 1 && (s != nil || e != api.ErrNone) {
			t.Errorf("Open(%d): %v, %v", r, s, e)
		}
	}
}

// Two stores on one disk don't touch each other.
func TestRegions(t *testing.T) {
	d := disk.New(64, api.Region)
	regions := []int{0, 1, 63}
	for _, r := range regions {
		s, e := New(d, r)
		if e != api.OK {
			t.Fatal(e)
		}
		n := s.Begin()
		if e := s.Put(n, is(strconv.Itoa(r), "x")); e != api.OK {
			t.Fatal(e)
		}
		if e := s.Write(0); e != api.OK {
			t.Fatal(e)
		}
		if r < 63 {
			if e := s.Commit(n); e != api.OK {
				t.Fatal(e)
			}
		}
	}
	d.Crash(0)
	for _, r := range regions {
		s, e := Open(d, r)
		if e != api.OK {
			t.Fatal(e)
		}
		var want []api.Row
		if r < 63 {
			want = []api.Row{is(strconv.Itoa(r), "x")}
		}
		if got := s.Rows(); !slices.Equal(got, want) {
			t.Errorf("region %d has %v; want %v", r, got, want)
		}
	}
}

// A store that is opened has nothing of what was open, even without a crash; and so it is when it is opened again.
func TestOpenTwice(t *testing.T) {
	w := newWorld(t)
	w.run(begin(), put(1, "a", "x"), commit(1), begin(), put(1, "b", "y"), write(0), begin(), put(2, "c", "z"), point())
	for range 3 {
		s, e := Open(w.d, 0)
		if e != api.OK || !slices.Equal(s.Rows(), []api.Row{is("a", "x")}) || s.Table.Open() != 0 || s.Locks.Len() != 0 {
			t.Fatalf("Open: %v, %v", s, e)
		}
	}
}

// What is handed out is nobody else's.
func TestAnswersAreNew(t *testing.T) {
	w := newWorld(t)
	w.run(begin(), put(1, "a", "x"), put(1, "b", "y"))
	rows := w.s.Rows()
	scanned, _ := w.s.Scan(1, 0, "", "z")
	for _, l := range [][]api.Row{rows, scanned} {
		l[0], l[1] = is("q", "q"), is("q", "q")
		_ = append(l[:1], is("r", "r"))
		w.wantSame("an answer was changed")
	}
	if again, _ := w.s.Scan(1, 0, "", "z"); !slices.Equal(again, w.m.rows()) {
		t.Error(again)
	}
}
