package desk

import (
	"math"
	"math/rand"
	"slices"
	"testing"
)

// Limits, counted by hand.
const (
	mostOpen = 6
	step     = 1048576 // from an epoch's handles to those of the next one
	lastOne  = 1048575 // the last ordinal
	mostSaid = 1 << 42 // the last epoch
)

var epochs = []int{0, 1, 2, 3, 255, 1<<20 - 1, 1 << 20, 1<<20 + 1, 1<<32 + 5, 1 << 41, mostSaid - 1, mostSaid}

// numbers that are no ordinals, and may be none of any handle.
var strange = []int{0, -1, 1 << 20, -step, step, math.MinInt, math.MaxInt, math.MinInt + 1}

// A want is what there is of a handle.
type want struct{ handle, txn int }

// wantDesk: just these handles, with these transactions, and none of gone.
func wantDesk(t *testing.T, what string, d *Desk, gone []int, all ...want) {
	t.Helper()
	if d.Len() != len(all) {
		t.Fatalf("%s: Len is %d, want %d", what, d.Len(), len(all))
	}
	for _, w := range all {
		if !d.Has(w.handle) || d.Txn(w.handle) != w.txn {
			t.Fatalf("%s: handle %d: %v, transaction %d; want it with %d", what, w.handle, d.Has(w.handle), d.Txn(w.handle), w.txn)
		}
	}
	for _, h := range gone {
		if d.Has(h) || d.Txn(h) != 0 {
			t.Fatalf("%s: no handle %d: %v, transaction %d", what, h, d.Has(h), d.Txn(h))
		}
	}
}

func mustOpen(t *testing.T, d *Desk, handle int) {
	t.Helper()
	if h := d.Open(); h != handle {
		t.Fatalf("Open is %d, want %d", h, handle)
	}
}

func mustShut(t *testing.T, d *Desk, h int, can bool) {
	t.Helper()
	if d.Shut(h) != can {
		t.Fatalf("Shut of %d isn't %v", h, can)
	}
}

// opened: a desk with its first handles, which have no transactions.
func opened(t *testing.T, epoch, handles int) *Desk {
	t.Helper()
	d := New(epoch)
	for i := range handles {
		mustOpen(t, d, epoch*step+i+1)
	}
	return d
}

func TestNewHasNone(t *testing.T) {
	for _, epoch := range epochs {
		gone := slices.Clone(strange)
		for ordinal := range 10 {
			gone = append(gone, epoch*step+ordinal)
		}
		wantDesk(t, "a new one", New(epoch), gone)
	}
}

func TestHandlesByHand(t *testing.T) {
	for epoch, first := range map[int]int{0: 1, 1: 1048577, 2: 2097153, 3: 3145729, 1 << 20: 1099511627777, mostSaid: 4611686018427387905} {
		d := New(epoch)
		for i := range mostOpen {
			mustOpen(t, d, first+i)
		}
	}
}

func TestOpenUpToTheMost(t *testing.T) {
	for _, epoch := range epochs {
		d := New(epoch)
		var all []want
		for i := range mostOpen {
			next := epoch*step + i + 1
			wantDesk(t, "ahead of Open", d, []int{next}, all...)
			mustOpen(t, d, next)
			all = append(all, want{next, 0})
			wantDesk(t, "behind Open", d, []int{next + 1, epoch * step, 0}, all...)
		}
		for range 10 {
			mustOpen(t, d, 0)
			wantDesk(t, "behind one too many", d, []int{epoch*step + 7, epoch * step, 0}, all...)
		}
	}
}

// A handle that is shut makes room for one more; what was refused took no ordinal.
func TestShutMakesRoom(t *testing.T) {
	for _, epoch := range epochs {
		base := epoch * step
		for first := 1; first <= mostOpen; first++ {
			for second := 1; second <= mostOpen; second++ {
				if first == second {
					continue
				}
				d := opened(t, epoch, mostOpen)
				mustOpen(t, d, 0)
				mustShut(t, d, base+first, true)
				mustOpen(t, d, base+7)
				mustOpen(t, d, 0)
				mustOpen(t, d, 0)
				mustShut(t, d, base+second, true)
				mustOpen(t, d, base+8)
				mustOpen(t, d, 0)
				var all []want
				for ordinal := 1; ordinal <= 8; ordinal++ {
					if ordinal != first && ordinal != second {
						all = append(all, want{base + ordinal, 0})
					}
				}
				wantDesk(t, "two others", d, []int{base + first, base + second, base + 9, 0}, all...)
			}
		}
	}
}

func TestNoOrdinalTwice(t *testing.T) {
	for _, epoch := range epochs {
		base := epoch * step
		// The last one is shut and there are none, again and again.
		d := New(epoch)
		for ordinal := 1; ordinal <= 40; ordinal++ {
			mustOpen(t, d, base+ordinal)
			mustShut(t, d, base+ordinal, true)
			wantDesk(t, "all shut", d, []int{base + ordinal, base + ordinal + 1})
		}
		// All are shut at once, in each order from one of them on.
		for from := range mostOpen {
			d := opened(t, epoch, mostOpen)
			for i := range mostOpen {
				mustShut(t, d, base+1+(from+i)%mostOpen, true)
			}
			wantDesk(t, "all shut", d, []int{base + 1, base + 2, base + 3, base + 4, base + 5, base + 6, base + 7})
			for ordinal := 7; ordinal <= 12; ordinal++ {
				mustOpen(t, d, base+ordinal)
			}
			mustOpen(t, d, 0)
		}
		// Some are shut between, the last one and others.
		d = opened(t, epoch, 3)
		mustShut(t, d, base+3, true)
		mustOpen(t, d, base+4)
		mustShut(t, d, base+1, true)
		mustShut(t, d, base+4, true)
		mustOpen(t, d, base+5)
		mustOpen(t, d, base+6)
		wantDesk(t, "three", d, []int{base + 1, base + 3, base + 4, base + 7}, want{base + 2, 0}, want{base + 5, 0}, want{base + 6, 0})
	}
}

// useUp opens handles up to the last one, and shuts each but that one.
func useUp(t *testing.T, d *Desk, base, held int) {
	t.Helper()
	for ordinal := held + 1; ordinal <= lastOne; ordinal++ {
		if h := d.Open(); h != base+ordinal {
			t.Fatalf("Open is %d, want %d", h, base+ordinal)
		}
		if held == mostOpen-1 && d.Open() != 0 {
			t.Fatalf("one too many behind %d", base+ordinal)
		}
		if ordinal < lastOne && !d.Shut(base+ordinal) {
			t.Fatalf("%d can't be shut", base+ordinal)
		}
	}
}

// With some handles held, the others come and go till the ordinals are used up: then there is none any more, though there is room.
func TestOrdinalsUsedUp(t *testing.T) {
	for _, epoch := range []int{0, 1, mostSaid - 1, mostSaid} {
		for held := range mostOpen {
			base := epoch * step
			d := opened(t, epoch, held)
			var all []want
			for i := range held {
				d.Set(base+i+1, i)
				all = append(all, want{base + i + 1, i})
			}
			useUp(t, d, base, held)
			gone := []int{0, base, base + lastOne - 1, base + step, base + step + 1}
			wantDesk(t, "the last one", d, gone, append(all, want{base + lastOne, 0})...)
			for range 3 {
				mustOpen(t, d, 0)
			}
			d.Set(base+lastOne, 2)
			mustShut(t, d, base+lastOne, false)
			wantDesk(t, "the last one's transaction", d, gone, append(all, want{base + lastOne, 2})...)
			d.Set(base+lastOne, 0)
			mustShut(t, d, base+lastOne, true)
			for range 3 {
				mustOpen(t, d, 0)
				wantDesk(t, "used up", d, append(gone, base+lastOne), all...)
			}
			for i := range held {
				d.Set(base+i+1, 0)
				mustShut(t, d, base+i+1, true)
				mustOpen(t, d, 0)
			}
			wantDesk(t, "used up, all shut", d, append(gone, base+1, base+2, base+lastOne))
		}
	}
}

func TestSet(t *testing.T) {
	for _, epoch := range epochs {
		base := epoch * step
		for ordinal := 1; ordinal <= mostOpen; ordinal++ {
			d := opened(t, epoch, mostOpen)
			var all []want
			for i := range mostOpen {
				all = append(all, want{base + i + 1, 0})
			}
			for _, txn := range []int{1, 2, 3, 3, 0, 0, 2, 0, 4, -1, 0, math.MaxInt, math.MinInt, 1 << 32, 1 << 62, 0} {
				d.Set(base+ordinal, txn)
				all[ordinal-1].txn = txn
				wantDesk(t, "behind Set", d, []int{0, base, base + 7}, all...)
			}
		}
	}
}

// All have transactions, some the same one; each keeps its own when others come and go.
func TestSetOfSome(t *testing.T) {
	d := opened(t, 5, 4)
	base := 5 * step
	d.Set(base+1, 3)
	d.Set(base+3, 1)
	d.Set(base+4, 3)
	wantDesk(t, "three of four", d, nil, want{base + 1, 3}, want{base + 2, 0}, want{base + 3, 1}, want{base + 4, 3})
	mustShut(t, d, base+2, true)
	wantDesk(t, "the second shut", d, []int{base + 2}, want{base + 1, 3}, want{base + 3, 1}, want{base + 4, 3})
	mustOpen(t, d, base+5)
	wantDesk(t, "a fifth", d, []int{base + 2}, want{base + 1, 3}, want{base + 3, 1}, want{base + 4, 3}, want{base + 5, 0})
	d.Set(base+1, 0)
	mustShut(t, d, base+1, true)
	d.Set(base+4, 2)
	wantDesk(t, "the first shut", d, []int{base + 1, base + 2}, want{base + 3, 1}, want{base + 4, 2}, want{base + 5, 0})
}

// Whatever a handle had, the next one has no transaction.
func TestOpenHasNoTransaction(t *testing.T) {
	for ordinal := 1; ordinal <= mostOpen; ordinal++ {
		d := opened(t, 1, mostOpen)
		for i := range mostOpen {
			d.Set(step+i+1, 3)
		}
		d.Set(step+ordinal, 0)
		mustShut(t, d, step+ordinal, true)
		d.Set(step+ordinal, 3)
		d.Set(step+7, 3)
		d.Set(0, 3)
		mustOpen(t, d, step+7)
		all := []want{{step + 7, 0}}
		for i := range mostOpen {
			if i+1 != ordinal {
				all = append(all, want{step + i + 1, 3})
			}
		}
		wantDesk(t, "the seventh", d, []int{step + ordinal, step + 8, 0}, all...)
	}
}

func TestShutWithATransaction(t *testing.T) {
	for _, txn := range []int{1, 2, 3, 4, 255, 256, 1 << 32, -1, math.MaxInt, math.MinInt} {
		for ordinal := 1; ordinal <= 3; ordinal++ {
			d := opened(t, 2, 3)
			h := 2*step + ordinal
			all := []want{{2*step + 1, 0}, {2*step + 2, 0}, {2*step + 3, 0}}
			d.Set(h, txn)
			all[ordinal-1].txn = txn
			for range 3 {
				mustShut(t, d, h, false)
				wantDesk(t, "it stays", d, nil, all...)
			}
			d.Set(h, 0)
			all = slices.Delete(all, ordinal-1, ordinal)
			mustShut(t, d, h, true)
			wantDesk(t, "it has gone", d, []int{h}, all...)
			mustShut(t, d, h, false)
			wantDesk(t, "it has gone for long", d, []int{h}, all...)
		}
	}
}

// Handles that there aren't, that were shut, and those of other epochs: nothing is done.
func TestWrongHandles(t *testing.T) {
	for _, epoch := range epochs {
		base := epoch * step
		for handles := range mostOpen + 1 {
			d := opened(t, epoch, handles)
			wrong := slices.Clone(strange)
			if handles > 1 {
				mustShut(t, d, base+2, true)
				wrong = append(wrong, base+2)
			}
			var all []want
			for i := range handles {
				if i != 1 {
					d.Set(base+i+1, i)
					all = append(all, want{base + i + 1, i})
				}
			}
			for _, far := range []int{-step, step, 2 * step, 1 << 21, 1 << 32, 1 << 40, -base - base - 2, -base} {
				for ordinal := 1; ordinal <= handles; ordinal++ {
					wrong = append(wrong, base+ordinal+far)
				}
			}
			wrong = append(wrong, base, base-1, base+handles+1, base+handles+2, base+lastOne, base+step, -base-1, -base-3)
			if epoch > 0 {
				wrong = append(wrong, 1, 2, 3, 4, 5, 6)
			}
			// Those that are far away from one of them may still be another one.
			wrong = slices.DeleteFunc(wrong, func(h int) bool { return slices.ContainsFunc(all, func(w want) bool { return w.handle == h }) })
			for _, h := range wrong {
				d.Set(h, 3)
				wantDesk(t, "Set of none", d, wrong, all...)
				mustShut(t, d, h, false)
				d.Set(h, 0)
				mustShut(t, d, h, false)
				wantDesk(t, "Shut of none", d, wrong, all...)
			}
			if len(all) < mostOpen {
				mustOpen(t, d, base+handles+1)
				wantDesk(t, "the next one", d, nil, append(all, want{base + handles + 1, 0})...)
			}
		}
	}
}

func TestNil(t *testing.T) {
	var d *Desk
	for range 10 {
		mustOpen(t, d, 0)
		for _, h := range append([]int{1, 2, step + 1}, strange...) {
			d.Set(h, 1)
			d.Set(h, 0)
			mustShut(t, d, h, false)
			wantDesk(t, "nil", d, []int{h, 1})
		}
	}
}

func TestDesksApart(t *testing.T) {
	one, two, next := New(7), New(7), New(8)
	mustOpen(t, one, 7*step+1)
	mustOpen(t, one, 7*step+2)
	mustOpen(t, two, 7*step+1)
	mustOpen(t, next, 8*step+1)
	one.Set(7*step+1, 2)
	two.Set(7*step+2, 3)
	next.Set(7*step+1, 1)
	wantDesk(t, "one", one, []int{8*step + 1}, want{7*step + 1, 2}, want{7*step + 2, 0})
	wantDesk(t, "two", two, []int{7*step + 2, 8*step + 1}, want{7*step + 1, 0})
	wantDesk(t, "next", next, []int{7*step + 1, 7*step + 2}, want{8*step + 1, 0})
	mustShut(t, two, 7*step+1, true)
	mustShut(t, next, 7*step+2, false)
	wantDesk(t, "one", one, []int{8*step + 1}, want{7*step + 1, 2}, want{7*step + 2, 0})
	wantDesk(t, "two", two, []int{7*step + 1})
}

// The document says nothing of other epochs, but the calls must end, and what they answer is no more than there is.
func TestOtherEpochs(t *testing.T) {
	for _, epoch := range []int{-1, -2, mostSaid + 1, 1 << 43, 1 << 44, 1<<44 + 1, math.MaxInt, math.MinInt, math.MinInt + 1} {
		d := New(epoch)
		for range mostOpen + 2 {
			h := d.Open()
			d.Set(h, 1)
			d.Txn(h)
			d.Has(h)
			d.Shut(h)
			d.Set(h, 0)
			if d.Len() > mostOpen {
				t.Fatalf("epoch %d: %d handles", epoch, d.Len())
			}
		}
	}
}

// A model is a desk as the document tells it.
type model struct {
	base, given int
	txns        map[int]int // by handles
}

func (m *model) open() int {
	if len(m.txns) == mostOpen {
		return 0
	}
	m.given++
	m.txns[m.base+m.given] = 0
	return m.base + m.given
}

func (m *model) set(h, txn int) {
	if _, has := m.txns[h]; has {
		m.txns[h] = txn
	}
}

func (m *model) shut(h int) bool {
	txn, has := m.txns[h]
	if has && txn == 0 {
		delete(m.txns, h)
		return true
	}
	return false
}

// check holds all that there ever was against the model.
func (m *model) check(t *testing.T, d *Desk) {
	t.Helper()
	var all []want
	var gone []int
	for h := m.base; h <= m.base+m.given+2; h++ {
		if txn, has := m.txns[h]; has {
			all = append(all, want{h, txn})
		} else {
			gone = append(gone, h, h-step, h+step)
		}
	}
	wantDesk(t, "any calls", d, gone, all...)
}

// Calls in any order, by a fixed seed, against the model: all that each of them answers, and all that there is behind it.
func TestAnyCalls(t *testing.T) {
	chance := rand.New(rand.NewSource(16))
	full, shut, kept := 0, 0, 0
	for _, epoch := range epochs {
		for range 60 {
			d, m := New(epoch), &model{base: epoch * step, txns: map[int]int{}}
			for range 60 {
				h := m.base + m.given - chance.Intn(9) + 1
				switch chance.Intn(6) {
				case 0, 1:
					handle := m.open()
					mustOpen(t, d, handle)
					if handle == 0 {
						full++
					}
				case 2:
					txn := chance.Intn(4)
					d.Set(h, txn)
					m.set(h, txn)
				case 3:
					d.Set(h, 0)
					m.set(h, 0)
				default:
					if m.txns[h] != 0 {
						kept++
					}
					can := m.shut(h)
					mustShut(t, d, h, can)
					if can {
						shut++
					}
				}
				m.check(t, d)
			}
		}
	}
	if full < 100 || shut < 1000 || kept < 1000 {
		t.Errorf("%d times full, %d shut, %d kept", full, shut, kept)
	}
}
