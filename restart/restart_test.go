package restart

import (
	"math"
	"slices"
	"strconv"
	"strings"
	"testing"

	"tenement/api"
	"tenement/lane"
	"tenement/trans"
)

// change: the nth change, unlike all others up to the thirtieth; each third one has no Before.
func change(n int) trans.Change {
	c := trans.Change{Page: n % api.Pages, Slot: n % api.Slots}
	if n%3 != 0 {
		c.Before = "b" + strconv.Itoa(n)
	}
	return c
}

// entry: one of a kind, of a transaction, with the nth change, and with an After, an Image and a Dirty that the plan must not heed.
func entry(kind, txn, n int) lane.Entry {
	c := change(n)
	r := api.Record{Kind: kind, Txn: txn, Page: c.Page, Slot: c.Slot, Before: c.Before}
	r.After, r.Image = "a"+strconv.Itoa(n), "i"+strconv.Itoa(n)
	if kind != api.Mark {
		r.Dirty = []uint64{1, 2}
	}
	return lane.Entry{Record: r, Place: uint64(1000 + n)}
}

func carry(txn, n int) lane.Entry  { return entry(api.Carry, txn, n) }
func update(txn, n int) lane.Entry { return entry(api.Update, txn, n) }
func undo(txn int) lane.Entry      { return entry(api.Undo, txn, 29) }
func commit(txn int) lane.Entry    { return entry(api.Commit, txn, 28) }
func end(txn int) lane.Entry       { return entry(api.End, txn, 27) }
func check(txn int) lane.Entry     { return entry(api.Check, txn, 26) }

// mark: a Mark at a place, with the Dirty that is given.
func mark(place uint64, dirty ...uint64) lane.Entry {
	return lane.Entry{Record: api.Record{Kind: api.Mark, Dirty: dirty}, Place: place}
}

// markOf: a Mark at place 0, which has nothing but a transaction, as if it was one of its changes.
func markOf(txn int) lane.Entry {
	e := entry(api.Mark, txn, 25)
	e.Place = 0
	return e
}

// plan: one whose only open transaction has these changes.
func plan(txn int, changes ...int) Plan { return with(Plan{}, txn, changes...) }

// with: a plan with one more open transaction.
func with(p Plan, txn int, changes ...int) Plan {
	p.Open[txn] = true
	for _, n := range changes {
		p.Losers[txn] = append(p.Losers[txn], change(n))
	}
	return p
}

func wantPlan(t *testing.T, got, want Plan) {
	t.Helper()
	if got.From != want.From || got.Open != want.Open {
		t.Fatalf("From is %d, Open %v; want %d, %v", got.From, got.Open, want.From, want.Open)
	}
	for n := range want.Losers {
		if !slices.Equal(got.Losers[n], want.Losers[n]) {
			t.Fatalf("Losers of %d are %v, want %v", n, got.Losers[n], want.Losers[n])
		}
	}
}

// stories: entries, by what they tell, and their plan.
type stories map[string]struct {
	entries []lane.Entry
	want    Plan
}

func (s stories) run(t *testing.T) {
	t.Helper()
	for name, x := range s {
		t.Run(name, func(t *testing.T) { wantPlan(t, Analyse(x.entries...), x.want) })
	}
}

type entries = []lane.Entry

func TestExample(t *testing.T) {
	p := Analyse(update(1, 4), update(1, 5), undo(1))
	wantPlan(t, p, plan(1, 4))
	if !p.Open[1] || len(p.Losers[1]) != 1 || p.Losers[1][0] != (trans.Change{Page: 4, Slot: 4, Before: "b4"}) {
		t.Fatalf("%v", p)
	}
}

func TestNoEntries(t *testing.T) {
	wantPlan(t, Analyse(), Plan{})
	wantPlan(t, Analyse(nil...), Plan{})
	wantPlan(t, Analyse([]lane.Entry{}...), Plan{})
}

func TestChanges(t *testing.T) {
	stories{
		"a Carry":                     {entries{carry(1, 7)}, plan(1, 7)},
		"an Update":                   {entries{update(1, 8)}, plan(1, 8)},
		"one without Before":          {entries{update(1, 9)}, plan(1, 9)},
		"two in their order":          {entries{update(1, 8), update(1, 7)}, plan(1, 8, 7)},
		"two of one slot":             {entries{update(1, 3), update(1, 3)}, plan(1, 3, 3)},
		"Carries ahead of Updates":    {entries{check(0), carry(1, 7), carry(1, 6), update(1, 5), update(1, 4)}, plan(1, 7, 6, 5, 4)},
		"a Carry behind an Update":    {entries{update(1, 5), carry(1, 7)}, plan(1, 5, 7)},
		"more than a transaction has": {entries{update(1, 1), update(1, 2), update(1, 3), update(1, 4), update(1, 5), update(1, 6), update(1, 7), update(1, 8), update(1, 9)}, plan(1, 1, 2, 3, 4, 5, 6, 7, 8, 9)},
	}.run(t)
}

// What a change has is what its entry has, whatever that is.
func TestChangesAnyhow(t *testing.T) {
	long := strings.Repeat("x", 1000)
	for _, c := range []trans.Change{{}, {Page: api.Pages - 1, Slot: api.Slots - 1}, {Page: 3, Slot: 1, Before: "\x00\xff"}, {Page: 1, Slot: 3, Before: long}, {Page: -1, Slot: math.MinInt}, {Page: math.MaxInt, Slot: -1}} {
		for _, kind := range []int{api.Carry, api.Update} {
			r := api.Record{Kind: kind, Txn: 2, Page: c.Page, Slot: c.Slot, Before: c.Before, After: "after"}
			p := Analyse(lane.Entry{Record: r})
			wantPlan(t, p, Plan{Open: [4]bool{2: true}, Losers: [4][]trans.Change{2: {c}}})
		}
	}
}

func TestUndo(t *testing.T) {
	stories{
		"once":                    {entries{update(1, 1), update(1, 2), update(1, 3), undo(1)}, plan(1, 1, 2)},
		"of a Carry":              {entries{carry(1, 1), carry(1, 2), undo(1)}, plan(1, 1)},
		"of an Update, to Carry":  {entries{carry(1, 1), update(1, 2), undo(1)}, plan(1, 1)},
		"twice in a row":          {entries{update(1, 1), update(1, 2), update(1, 3), undo(1), undo(1)}, plan(1, 1)},
		"of all":                  {entries{update(1, 1), update(1, 2), undo(1), undo(1)}, plan(1)},
		"of more than there are":  {entries{update(1, 1), update(1, 2), undo(1), undo(1), undo(1), undo(1)}, plan(1)},
		"between Updates":         {entries{update(1, 1), undo(1), update(1, 2), update(1, 3), undo(1), update(1, 4)}, plan(1, 2, 4)},
		"two between Updates":     {entries{update(1, 1), update(1, 2), update(1, 3), undo(1), undo(1), update(1, 4), undo(1), update(1, 5)}, plan(1, 1, 5)},
		"of none, and a change":   {entries{undo(1), update(1, 1)}, plan(1, 1)},
		"too many, and a change":  {entries{update(1, 1), undo(1), undo(1), undo(1), update(1, 2), update(1, 3)}, plan(1, 2, 3)},
		"of none":                 {entries{undo(1)}, Plan{}},
		"of none, more than once": {entries{undo(1), undo(1), undo(1)}, Plan{}},
		"of another one":          {entries{update(1, 1), update(2, 2), undo(2)}, with(plan(1, 1), 2)},
		"of one that isn't open":  {entries{update(1, 1), undo(2)}, plan(1, 1)},
	}.run(t)
}

func TestEnds(t *testing.T) {
	for name, over := range map[string]func(int) lane.Entry{"Commit ": commit, "End ": end} {
		stories{
			name + "of an Update":           {entries{update(1, 1), over(1)}, Plan{}},
			name + "of a Carry":             {entries{carry(1, 1), over(1)}, Plan{}},
			name + "of some":                {entries{carry(1, 1), update(1, 2), update(1, 3), over(1)}, Plan{}},
			name + "behind Undos":           {entries{update(1, 1), update(1, 2), undo(1), undo(1), over(1)}, Plan{}},
			name + "behind one Undo":        {entries{update(1, 1), update(1, 2), undo(1), over(1)}, Plan{}},
			name + "of one that isn't open": {entries{over(1)}, Plan{}},
			name + "twice":                  {entries{update(1, 1), over(1), over(1)}, Plan{}},
			name + "of another one":         {entries{update(1, 1), update(2, 2), over(2)}, plan(1, 1)},
			name + "and Undo":               {entries{update(1, 1), update(1, 2), over(1), undo(1)}, Plan{}},
			name + "and the next one":       {entries{update(1, 1), update(1, 2), over(1), update(1, 3)}, plan(1, 3)},
			name + "and its Undo":           {entries{update(1, 1), update(1, 2), over(1), update(1, 3), undo(1), undo(1)}, plan(1)},
			name + "and Undos ahead of it":  {entries{update(1, 1), over(1), undo(1), update(1, 3)}, plan(1, 3)},
			name + "and the next one's too": {entries{update(1, 1), over(1), carry(1, 2), over(1), update(1, 3), update(1, 4)}, plan(1, 3, 4)},
		}.run(t)
	}
}

func TestAmongOneAnother(t *testing.T) {
	all := with(with(plan(1, 1, 4), 2, 2, 5), 3, 3, 6)
	stories{
		"one behind the other": {entries{update(1, 1), update(1, 4), update(2, 2), update(2, 5), update(3, 3), update(3, 6)}, all},
		"by turns":             {entries{carry(1, 1), carry(2, 2), carry(3, 3), update(3, 6), update(2, 5), update(1, 4)}, all},
		"each one's Undo":      {entries{update(1, 1), update(2, 2), update(3, 3), undo(2), update(2, 4), update(1, 5), undo(1), undo(3), undo(3)}, with(with(plan(1, 1), 2, 4), 3)},
		"each one's end":       {entries{update(1, 1), update(2, 2), update(3, 3), commit(2), update(2, 5), update(1, 4), end(3), update(1, 6)}, with(plan(1, 1, 4, 6), 2, 5)},
		"all end":              {entries{update(1, 1), update(2, 2), update(3, 3), commit(3), end(1), commit(2)}, Plan{}},
		"the last one alone":   {entries{update(1, 1), update(2, 2), update(3, 3), commit(1), end(2)}, plan(3, 3)},
		"with a Mark among":    {entries{check(0), carry(2, 1), update(1, 2), mark(1003, 0, 1002), update(1, 4), commit(1)}, Plan{From: 1002, Open: [4]bool{2: true}, Losers: [4][]trans.Change{2: {change(1)}}}},
	}.run(t)
}

// Each number from 1 to MaxOpen is a transaction.
func TestNumbers(t *testing.T) {
	for n := 1; n <= api.MaxOpen; n++ {
		wantPlan(t, Analyse(carry(n, 1), update(n, 2), update(n, 3), undo(n)), plan(n, 1, 2))
		wantPlan(t, Analyse(update(n, 1), commit(n)), Plan{})
		wantPlan(t, Analyse(update(n, 1), end(n)), Plan{})
	}
}

// wrongTxns: numbers that no transaction has, among them some that would be one if they were cut to fewer bits.
func wrongTxns() []int {
	return []int{math.MinInt, math.MinInt + 1, -256, -255, -api.MaxOpen, -2, -1, 0, api.MaxOpen + 1, api.MaxOpen + 2, 2 * api.MaxOpen, 255, 256, 257, 1 << 32, 1<<32 + 1, math.MaxInt}
}

func TestWrongNumbers(t *testing.T) {
	for _, txn := range wrongTxns() {
		wantPlan(t, Analyse(carry(txn, 1), update(txn, 2)), Plan{})
		for _, e := range []lane.Entry{carry(txn, 1), update(txn, 2), undo(txn), commit(txn), end(txn), check(txn), markOf(txn)} {
			wantPlan(t, Analyse(e), Plan{})
			wantPlan(t, Analyse(update(1, 4), update(3, 5), e), with(plan(1, 4), 3, 5))
		}
	}
}

// Check and Mark, whatever they have, are no change of a transaction, and no end of one.
func TestCheckAndMark(t *testing.T) {
	for _, txn := range append(wrongTxns(), 1, 2, 3) {
		for _, e := range []lane.Entry{check(txn), markOf(txn)} {
			wantPlan(t, Analyse(e), Plan{})
			wantPlan(t, Analyse(e, update(1, 1), e, update(1, 2), update(1, 3), e, undo(1), e), plan(1, 1, 2))
			wantPlan(t, Analyse(update(1, 1), commit(1), e), Plan{})
		}
	}
}

// wrongKinds: kinds that are none.
func wrongKinds() []int {
	return []int{math.MinInt, -256, -api.Update, -1, 0, api.Mark + 1, api.Mark + 2, 255, 256 + api.Carry, 256 + api.Update, 256 + api.Commit, 256 + api.Mark, 1<<32 + api.Update, math.MaxInt}
}

func TestWrongKinds(t *testing.T) {
	for _, kind := range wrongKinds() {
		for _, txn := range []int{-1, 0, 1, 2, 3, 4} {
			e := entry(kind, txn, 5)
			wantPlan(t, Analyse(e), Plan{})
			wantPlan(t, Analyse(update(1, 1), e, update(1, 2), e, undo(1), mark(9), e), Plan{From: 9, Open: [4]bool{1: true}, Losers: [4][]trans.Change{1: {change(1)}}})
		}
	}
}

func TestFrom(t *testing.T) {
	for name, x := range map[string]struct {
		entries []lane.Entry
		want    uint64
	}{
		"no Mark":                      {entries{check(0), carry(1, 1), update(1, 2), undo(1), commit(1), end(2)}, 0},
		"without Dirty":                {entries{mark(50)}, 50},
		"at the first place":           {entries{mark(1)}, 1},
		"with zeros alone":             {entries{mark(50, 0, 0, 0, 0, 0, 0)}, 50},
		"with a lesser one":            {entries{mark(50, 0, 0, 49, 0, 0, 0)}, 49},
		"with the least there is":      {entries{mark(50, 0, 0, 0, 0, 1, 0)}, 1},
		"with an equal one":            {entries{mark(50, 0, 50, 0, 0, 0, 0)}, 50},
		"with a greater one":           {entries{mark(50, 51, 0, 0, 0, 0, 0)}, 50},
		"with greater ones alone":      {entries{mark(50, 60, 51, 70, 51, 99, 52)}, 50},
		"the least in front":           {entries{mark(50, 20, 30, 40, 0, 0, 0)}, 20},
		"the least in the middle":      {entries{mark(50, 40, 30, 20, 30, 40, 60)}, 20},
		"the least at the end":         {entries{mark(50, 40, 30, 50, 0, 0, 10)}, 10},
		"fewer than there are pages":   {entries{mark(50, 7)}, 7},
		"more than there are pages":    {entries{mark(50, 0, 0, 0, 0, 0, 0, 0, 6)}, 6},
		"great numbers":                {entries{mark(math.MaxUint64, 0, math.MaxUint64-1)}, math.MaxUint64 - 1},
		"great numbers beside a least": {entries{mark(3, 1<<63, math.MaxUint64)}, 3},
		"the last of two, greater":     {entries{mark(10, 5), mark(50, 45)}, 45},
		"the last of two, less":        {entries{mark(50, 45), mark(10, 5)}, 5},
		"the last one without Dirty":   {entries{mark(10, 5), mark(50)}, 50},
		"the last one of zeros":        {entries{mark(10, 5), mark(50, 0, 0)}, 50},
		"the last of three":            {entries{mark(10, 5), mark(20, 3), mark(30, 25, 28)}, 25},
		"among others":                 {entries{check(0), mark(10, 5), update(1, 1), mark(50, 45), update(1, 2), undo(1), commit(1), end(1), check(0)}, 45},
		"of place 0":                   {entries{mark(50, 45), mark(0)}, 0},
		"of place 0, with Dirty":       {entries{mark(50, 45), mark(0, 7)}, 0},
	} {
		t.Run(name, func(t *testing.T) {
			if p := Analyse(x.entries...); p.From != x.want {
				t.Fatalf("From is %d, want %d", p.From, x.want)
			}
		})
	}
}

// A Mark tells From whatever its transaction is: it concerns none.
func TestFromOfAnyNumber(t *testing.T) {
	for _, txn := range append(wrongTxns(), 1, 2, 3) {
		e := mark(50, 0, 45)
		e.Txn = txn
		wantPlan(t, Analyse(mark(10), e), Plan{From: 45})
	}
}

// kinds: all kinds of records, and some that are none.
func kinds() []int {
	return append(wrongKinds(), api.Check, api.Carry, api.Update, api.Undo, api.Commit, api.End, api.Mark)
}

// wantAgain holds Again of an entry of each kind against what it is for an Update and an Undo; for the other kinds, it is false.
func wantAgain(t *testing.T, from, place uint64, image string, told uint64, torn, want bool) {
	t.Helper()
	for _, kind := range kinds() {
		e := lane.Entry{Record: api.Record{Kind: kind, Txn: 1, Image: image}, Place: place}
		again := want && (kind == api.Update || kind == api.Undo)
		if got := Again(Plan{From: from}, e, told, torn); got != again {
			t.Fatalf("Again is %v: kind %d, from %d, place %d, image %q, mark %d, torn %v", got, kind, from, place, image, told, torn)
		}
	}
}

func TestAgainOfTornPage(t *testing.T) {
	image := strings.Repeat("\x00", api.PageSize)
	for _, told := range []uint64{0, 99, 100, 101, math.MaxUint64} {
		wantAgain(t, 0, 100, image, told, true, true)
		wantAgain(t, 0, 100, "i", told, true, true)
		wantAgain(t, 0, 100, "", told, true, false)
		wantAgain(t, 99, 100, image, told, true, true)
		wantAgain(t, 99, 100, "", told, true, false)
		wantAgain(t, 100, 100, image, told, true, true)
		wantAgain(t, 100, 100, "", told, true, false)
		wantAgain(t, 101, 100, image, told, true, false)
		wantAgain(t, 101, 100, "", told, true, false)
	}
}

func TestAgainOfWholePage(t *testing.T) {
	for _, image := range []string{"", "i", strings.Repeat("x", api.PageSize)} {
		for _, from := range []uint64{0, 1, 99, 100} {
			wantAgain(t, from, 100, image, 0, false, true)
			wantAgain(t, from, 100, image, 99, false, true)
			wantAgain(t, from, 100, image, 100, false, false)
			wantAgain(t, from, 100, image, 101, false, false)
			wantAgain(t, from, 100, image, math.MaxUint64, false, false)
		}
		for _, from := range []uint64{101, 102, math.MaxUint64} {
			for _, told := range []uint64{0, 99, 100, 101} {
				wantAgain(t, from, 100, image, told, false, false)
			}
		}
	}
}

func TestAgainAtTheBounds(t *testing.T) {
	const last = math.MaxUint64
	wantAgain(t, 0, 0, "i", 0, true, true)
	wantAgain(t, 0, 0, "i", 0, false, false)
	wantAgain(t, 0, 1, "", 0, false, true)
	wantAgain(t, last, last, "i", last, true, true)
	wantAgain(t, last, last, "", last-1, false, true)
	wantAgain(t, last, last, "", last, false, false)
	wantAgain(t, last, last-1, "i", 0, true, false)
	wantAgain(t, 1, 1<<63, "", 1<<63-1, false, true)
	wantAgain(t, 1<<63, 1, "i", 0, true, false)
	wantAgain(t, 1, 2<<20+1, "", 1<<20+1, false, true)
}

// Of the plan, only From tells; of an entry, neither its transaction nor its other parts do.
func TestAgainOfAnyPlan(t *testing.T) {
	p := Analyse(update(1, 1), update(3, 2), mark(50, 45))
	for _, txn := range append(wrongTxns(), 1, 2, 3) {
		for _, kind := range []int{api.Update, api.Undo} {
			e := entry(kind, txn, 5)
			for place, want := range map[uint64]bool{44: false, 45: true, 46: true} {
				e.Place = place
				if Again(p, e, 40, false) != want || Again(p, e, 60, true) != want {
					t.Fatalf("kind %d of %d at %d isn't %v", kind, txn, place, want)
				}
			}
		}
	}
}

// A plan has memory of its own, and each of its lists too; what is passed stays as it is.
func TestMemory(t *testing.T) {
	l := entries{check(0), update(1, 1), update(2, 2), update(1, 3), undo(1), mark(50, 40, 30), update(3, 4), update(2, 5), commit(3), update(3, 6)}
	before := make(entries, len(l))
	for n, e := range l {
		e.Dirty = slices.Clone(e.Dirty)
		before[n] = e
	}
	want := Plan{From: 30, Open: [4]bool{1: true, 2: true, 3: true}, Losers: [4][]trans.Change{1: {change(1)}, 2: {change(2), change(5)}, 3: {change(6)}}}
	p, q := Analyse(l...), Analyse(l...)
	wantPlan(t, p, want)
	for n, e := range l {
		if e.Place != before[n].Place || e.Kind != before[n].Kind || e.Txn != before[n].Txn || e.Before != before[n].Before || !slices.Equal(e.Dirty, before[n].Dirty) {
			t.Fatalf("entry %d is changed: %v", n, e)
		}
		l[n] = lane.Entry{}
		clear(e.Dirty)
	}
	wantPlan(t, p, want)
	for n := range p.Losers {
		list := p.Losers[n][:cap(p.Losers[n])]
		for at := range list {
			list[at] = change(9)
		}
	}
	wantPlan(t, q, want)
	for n := range q.Losers {
		q.Losers[n] = append(q.Losers[n], change(7), change(8))
	}
	for n := range q.Losers {
		if !slices.Equal(q.Losers[n], append(slices.Clone(want.Losers[n]), change(7), change(8))) {
			t.Fatalf("the list of %d is %v", n, q.Losers[n])
		}
	}
}

// Again leaves a plan, and an entry, as they are.
func TestAgainChangesNothing(t *testing.T) {
	p := Analyse(update(1, 1), update(1, 2), mark(50, 45))
	want := Analyse(update(1, 1), update(1, 2), mark(50, 45))
	for _, kind := range kinds() {
		e := entry(kind, 1, 3)
		e.Dirty = []uint64{3, 4}
		Again(p, e, 1, false)
		Again(p, e, 1, true)
		if !slices.Equal(e.Dirty, []uint64{3, 4}) {
			t.Fatalf("the entry is %v", e)
		}
	}
	wantPlan(t, p, want)
}
