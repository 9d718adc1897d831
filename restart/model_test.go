package restart

import (
	"math/rand"
	"testing"

	"tenement/api"
	"tenement/disk"
	"tenement/lane"
	"tenement/trans"
)

// own: the entries of a transaction since it ended the last time.
func own(l []lane.Entry, txn int) []lane.Entry {
	var all []lane.Entry
	for _, e := range l {
		if e.Txn != txn {
			continue
		}
		all = append(all, e)
		if e.Kind == api.Commit || e.Kind == api.End {
			all = nil
		}
	}
	return all
}

// undone: which of a transaction's entries is undone by the one at a place among them, which is an Undo; -1: none is. It is the last change ahead of it that no Undo between the two has undone.
func undone(l []lane.Entry, at int) int {
	taken := map[int]bool{}
	for n := range at {
		if l[n].Kind == api.Undo {
			taken[undone(l, n)] = true
		}
	}
	for n := at - 1; n >= 0; n-- {
		if isChange(l[n]) && !taken[n] {
			return n
		}
	}
	return -1
}

func isChange(e lane.Entry) bool { return e.Kind == api.Carry || e.Kind == api.Update }

// losers: the changes of a transaction's entries that none of them undoes; and whether it has any change at all.
func losers(l []lane.Entry) ([]trans.Change, bool) {
	gone := map[int]bool{}
	for n, e := range l {
		if e.Kind == api.Undo {
			gone[undone(l, n)] = true
		}
	}
	var list []trans.Change
	open := false
	for n, e := range l {
		open = open || isChange(e)
		if isChange(e) && !gone[n] {
			list = append(list, trans.Change{Page: e.Page, Slot: e.Slot, Before: e.Before})
		}
	}
	return list, open
}

// lastFrom: From, told from the end on.
func lastFrom(l []lane.Entry) uint64 {
	for n := len(l) - 1; n >= 0; n-- {
		if l[n].Kind != api.Mark {
			continue
		}
		least := l[n].Place
		for _, d := range l[n].Dirty {
			if d != 0 && d < least {
				least = d
			}
		}
		return least
	}
	return 0
}

// model: the plan, each part of it told by itself, from all entries anew.
func model(l []lane.Entry) Plan {
	p := Plan{From: lastFrom(l)}
	for n := 1; n <= api.MaxOpen; n++ {
		p.Losers[n], p.Open[n] = losers(own(l, n))
	}
	return p
}

// All rows of six entries of one transaction, and of another one among them.
func TestShortStories(t *testing.T) {
	const length = 6
	made := []func(n int) lane.Entry{
		func(n int) lane.Entry { return update(1, n) },
		func(n int) lane.Entry { return carry(1, n) },
		func(n int) lane.Entry { return undo(1) },
		func(n int) lane.Entry { return commit(1) },
		func(n int) lane.Entry { return end(1) },
		func(n int) lane.Entry { return update(2, n) },
		func(n int) lane.Entry { return undo(2) },
	}
	all := 1
	for range length {
		all *= len(made)
	}
	for story := range all {
		var l []lane.Entry
		for rest, n := story, 1; n <= length; n++ {
			l = append(l, made[rest%len(made)](n))
			rest /= len(made)
		}
		wantPlan(t, Analyse(l...), model(l))
	}
}

// anyEntry: one of any kind, of any transaction or of none, at a place.
func anyEntry(r *rand.Rand, place uint64) lane.Entry {
	kinds := []int{api.Check, api.Carry, api.Update, api.Update, api.Update, api.Update, api.Undo, api.Undo, api.Commit, api.End, api.Mark, 0, 8}
	e := entry(kinds[r.Intn(len(kinds))], r.Intn(api.MaxOpen+3)-1, r.Intn(25))
	e.Place = place
	if e.Kind == api.Mark {
		for range r.Intn(api.Pages + 2) {
			e.Dirty = append(e.Dirty, uint64(max(0, r.Intn(int(place)+20)-10)))
		}
	}
	return e
}

// Long rows of any entries; the seeds are fixed, so that each run is the same. The plan of each of their beginnings is held against the model.
func TestLongStories(t *testing.T) {
	for seed := range int64(100) {
		r := rand.New(rand.NewSource(seed))
		var l []lane.Entry
		place := uint64(1)
		for range 60 {
			l = append(l, anyEntry(r, place))
			place += uint64(11 + r.Intn(30))
			wantPlan(t, Analyse(l...), model(l))
		}
	}
}

func must(t *testing.T, err api.Errno) {
	t.Helper()
	if err != api.OK {
		t.Fatal(err)
	}
}

// appendTo adds a valid record to a lane: its place.
func appendTo(t *testing.T, l *lane.Lane, kind, txn int, before, image byte) uint64 {
	t.Helper()
	r := api.Record{Kind: kind, Txn: txn, Page: 2, Slot: 3, Before: slots(before, api.RowSize), Image: slots(image, api.PageSize)}
	place, err := l.Append(r)
	must(t, err)
	return place
}

// slots: so many bytes; 0: none.
func slots(b byte, n int) string {
	if b == 0 {
		return ""
	}
	all := make([]byte, n)
	for i := range all {
		all[i] = b
	}
	return string(all)
}

// What a lane keeps through a crash can be analysed as it is found.
func TestBehindACrash(t *testing.T) {
	d := disk.New(1, api.Region)
	l, err := lane.New(d, 0)
	must(t, err)
	first := appendTo(t, l, api.Update, 1, 'a', 'i')
	appendTo(t, l, api.Update, 2, 0, 0)
	second := appendTo(t, l, api.Update, 1, 'b', 0)
	appendTo(t, l, api.Commit, 2, 0, 0)
	marked, err := l.Append(api.Record{Kind: api.Mark, Dirty: []uint64{0, 0, second, 0, 0, 0}})
	must(t, err)
	undoing := appendTo(t, l, api.Undo, 1, 0, 0)
	must(t, l.Flush())
	appendTo(t, l, api.Commit, 1, 0, 0)
	d.Crash(0)
	_, all, err := lane.Open(d, 0)
	must(t, err)
	p := Analyse(all...)
	wantPlan(t, p, Plan{From: second, Open: [4]bool{1: true}, Losers: [4][]trans.Change{1: {{Page: 2, Slot: 3, Before: slots('a', api.RowSize)}}}})
	if first >= second || second >= marked || marked >= undoing {
		t.Fatalf("places %d, %d, %d, %d", first, second, marked, undoing)
	}
	var again []uint64
	for _, e := range all {
		if Again(p, e, 0, false) {
			again = append(again, e.Place)
		}
		if Again(p, e, undoing, false) || Again(p, e, 0, true) {
			t.Fatalf("the record at %d is done again", e.Place)
		}
	}
	if len(again) != 2 || again[0] != second || again[1] != undoing {
		t.Fatalf("done again are %v, want %d and %d", again, second, undoing)
	}
}
