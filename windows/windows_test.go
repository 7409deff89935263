package windows_test

import (
	"math"
	"testing"

	"fairway/api"
	"fairway/windows"
)

// odd is numbers far below and far beyond all that a window may have.
func odd() []int {
	return []int{
		-1, -2, -16, -17, -4096, -4112, -1 << 31, -1 << 40, -1 << 62, math.MinInt, math.MinInt + 1, math.MinInt + 16,
		4113, 8192, 1 << 16, 1 << 31, 1 << 32, 1 << 40, 1 << 62, math.MaxInt - 16, math.MaxInt - 1, math.MaxInt,
	}
}

func made(t *testing.T, capacity, last, done int) *windows.Window {
	t.Helper()
	w, e := windows.New(capacity, last, done)
	if e != api.OK || w == nil {
		t.Fatalf("New(%d, %d, %d) tells %v", capacity, last, done, e)
	}
	return w
}

func checkTold(t *testing.T, name string, w *windows.Window, want state) {
	t.Helper()
	for range 2 {
		if got := told(w); got != want {
			t.Fatalf("%s: %+v, not %+v", name, got, want)
		}
	}
}

func checkNext(t *testing.T, w *windows.Window, want int) {
	t.Helper()
	if n, ok := w.Next(); n != want || !ok {
		t.Fatalf("%+v: Next: %d, %t, not %d", told(w), n, ok, want)
	}
}

func checkNoNext(t *testing.T, w *windows.Window) {
	t.Helper()
	before := told(w)
	if n, ok := w.Next(); n != 0 || ok {
		t.Fatalf("%+v: Next: %d, %t, where there is none", before, n, ok)
	}
	checkTold(t, "behind no Next", w, before)
}

// none is windows that are nil, or that New did not make, made anew.
func none() map[string]*windows.Window {
	refused, _ := windows.New(0, 1, 1)
	return map[string]*windows.Window{"nil": nil, "zero": {}, "refused": refused}
}

// P4.1: each capacity that may be, with the edges of both numbers.
func TestNew(t *testing.T) {
	for capacity := 1; capacity <= 16; capacity++ {
		for _, last := range []int{0, 1, 2, 15, 16, 17, 100, 4080, 4095, 4096} {
			for _, done := range []int{0, last / 2, last - 17, last - 16, last - 15, last - 1, last} {
				if done < 0 {
					continue
				}
				w := made(t, capacity, last, done)
				offer := done + capacity
				checkTold(t, "New", w, state{last, done, last, 0, offer, max(0, min(offer, 4096)-last)})
			}
		}
	}
}

func TestNewRefusesWhatMayNotBe(t *testing.T) {
	for _, x := range []struct{ capacity, last, done int }{
		{0, 1, 1}, {-1, 1, 1}, {17, 1, 1}, {0, 0, 0}, {17, 0, 0}, {17, 4096, 4096},
		{1, 0, -1}, {1, 5, -1}, {16, 4096, -1}, {1, -1, -1}, {1, -1, -2}, {1, -2, -1},
		{1, 0, 1}, {1, 4, 5}, {1, 4095, 4096}, {1, -1, 0}, {16, 0, 4096},
		{1, 4097, 0}, {1, 4097, 4096}, {1, 4097, 4097}, {16, 4112, 4100}, {1, 4096, 4097},
	} {
		checkRefused(t, x.capacity, x.last, x.done)
	}
	for _, n := range odd() {
		checkRefused(t, n, 1, 1)
		checkRefused(t, 1, n, 0)
		checkRefused(t, 1, 4096, n)
		checkRefused(t, n, n, n)
		checkRefused(t, 16, n, n)
		for _, m := range odd() {
			checkRefused(t, 1, n, m)
			checkRefused(t, n, m, 0)
		}
	}
}

func checkRefused(t *testing.T, capacity, last, done int) {
	t.Helper()
	if w, e := windows.New(capacity, last, done); w != nil || e != api.ErrArg {
		t.Errorf("New(%d, %d, %d) = %v, %v", capacity, last, done, w, e)
	}
}

// All numbers near the edges, by threes: refused just where the chapter says so.
func TestNewByThrees(t *testing.T) {
	for _, capacity := range []int{-1, 0, 1, 2, 15, 16, 17} {
		for _, last := range []int{-2, -1, 0, 1, 2, 4095, 4096, 4097} {
			for _, done := range []int{-2, -1, 0, 1, 2, 3, 4095, 4096, 4097} {
				refused := capacity < 1 || capacity > 16 || done < 0 || last < done || last > 4096
				w, e := windows.New(capacity, last, done)
				if refused != (e == api.ErrArg) || refused != (w == nil) || !refused && e != api.OK {
					t.Errorf("New(%d, %d, %d) = %v, %v", capacity, last, done, w, e)
				}
			}
		}
	}
}

func TestWindowsAreApart(t *testing.T) {
	a, b := made(t, 2, 3, 2), made(t, 2, 3, 2)
	a.Push()
	a.Ack(3)
	a.Grant(9)
	a.Next()
	checkTold(t, "the other one", b, state{3, 2, 3, 0, 4, 1})
	checkTold(t, "the one", a, state{4, 3, 4, 9, 5, 1})
}

// The chapter says what of a window that is none is told; nothing that is asked makes one of it.
func TestWindowsThatAreNone(t *testing.T) {
	for name, w := range none() {
		for range 2 {
			for _, n := range append(odd(), 0, 1, 2, 16, 4096, 4112) {
				w.Grant(n)
				w.Back(n)
				if w.Ack(n) {
					t.Errorf("%s: Ack %d: true", name, n)
				}
				checkTold(t, name, w, state{})
			}
			if w.Push() {
				t.Errorf("%s: Push: true", name)
			}
			checkNoNext(t, w)
			w.Renew()
			checkTold(t, name, w, state{})
			if c := w.Copy(); c != nil {
				t.Errorf("%s: Copy: %v", name, c)
			}
		}
	}
}

// The chapter's example.
func TestExample(t *testing.T) {
	w := made(t, 2, 3, 2)
	checkTold(t, "New", w, state{last: 3, done: 2, sent: 3, offer: 4, free: 1})
	if !w.Push() || w.Push() {
		t.Error("Push, Push: not true, false")
	}
	if w.Ack(5) || w.Ack(2) || !w.Ack(4) {
		t.Error("Ack 5, 2, 4: not false, false, true")
	}
	checkNoNext(t, w)
	w.Grant(4)
	checkNext(t, w, 4)
	checkNoNext(t, w)
	w.Back(2)
	checkNext(t, w, 3)
	checkTold(t, "behind all", w, state{last: 4, done: 4, sent: 3, limit: 4, offer: 6, free: 2})
}

// P4.2: so many pushes as the capacity are taken while nothing is done.
func TestPushUpToTheCapacity(t *testing.T) {
	for capacity := 1; capacity <= 16; capacity++ {
		for _, begin := range []int{0, 1, 100, 4079} {
			w := made(t, capacity, begin, begin)
			for n := range capacity {
				checkTold(t, "ahead of Push", w, state{begin + n, begin, begin, 0, begin + capacity, capacity - n})
				if !w.Push() {
					t.Fatalf("capacity %d: Push at %d: false", capacity, n)
				}
			}
			full := state{begin + capacity, begin, begin, 0, begin + capacity, 0}
			for range 3 {
				checkTold(t, "full", w, full)
				if w.Push() {
					t.Fatalf("capacity %d: Push of a full window: true", capacity)
				}
			}
			if w.Ack(begin + 1); !w.Push() || w.Push() {
				t.Errorf("capacity %d: behind Ack of one, not one Push", capacity)
			}
		}
	}
}

func TestPushUpToTheEndOfTheLog(t *testing.T) {
	for capacity := 1; capacity <= 16; capacity++ {
		w := made(t, capacity, 0, 0)
		for n := range 4096 {
			if !w.Push() {
				t.Fatalf("capacity %d: Push at %d: false", capacity, n)
			}
			if w.Free() == 0 && n < 4095 {
				w.Ack(n - capacity/2 + 1)
			}
		}
		for range 2 {
			if w.Push() || w.Free() != 0 || w.Last() != 4096 {
				t.Errorf("capacity %d: the log is full, and %+v", capacity, told(w))
			}
			w.Ack(4096)
		}
		checkTold(t, "all done", w, state{4096, 4096, 0, 0, 4096 + capacity, 0})
	}
}

// More may be open than the capacity: Free is 0, not below.
func TestFreeWhereMoreIsOpenThanTheCapacity(t *testing.T) {
	for _, x := range []struct{ capacity, last, done, offer, free int }{
		{1, 1, 0, 1, 0}, {1, 2, 0, 1, 0}, {2, 10, 2, 4, 0}, {16, 4096, 0, 16, 0}, {16, 16, 0, 16, 0}, {16, 15, 0, 16, 1},
		{16, 4096, 4096, 4112, 0}, {16, 4095, 4095, 4111, 1}, {16, 4090, 4085, 4101, 6}, {2, 4095, 4094, 4096, 1}, {1, 4095, 4095, 4096, 1},
	} {
		w := made(t, x.capacity, x.last, x.done)
		checkTold(t, "New", w, state{x.last, x.done, x.last, 0, x.offer, x.free})
		if ok := w.Push(); ok != (x.free > 0) {
			t.Errorf("New(%d, %d, %d): Push: %t", x.capacity, x.last, x.done, ok)
		}
	}
}

// P4.3: Done, Last, both neighbours of each, and far beyond.
func TestAck(t *testing.T) {
	for _, x := range []struct {
		last, done, index int
		ok                bool
	}{
		{9, 4, 3, false}, {9, 4, 4, false}, {9, 4, 5, true}, {9, 4, 7, true}, {9, 4, 8, true}, {9, 4, 9, true}, {9, 4, 10, false},
		{9, 4, 0, false}, {9, 4, -5, false}, {9, 4, 4096, false}, {9, 9, 9, false}, {9, 9, 10, false}, {9, 9, 8, false},
		{9, 8, 9, true}, {9, 8, 8, false}, {0, 0, 0, false}, {0, 0, 1, false}, {0, 0, -1, false}, {1, 0, 1, true}, {1, 0, 0, false},
		{4096, 0, 4096, true}, {4096, 4095, 4096, true}, {4096, 4096, 4096, false}, {4096, 4095, 4097, false},
	} {
		w := made(t, 16, x.last, x.done)
		want := told(w)
		if ok := w.Ack(x.index); ok != x.ok {
			t.Errorf("last %d, done %d: Ack %d: %t", x.last, x.done, x.index, ok)
		}
		if x.ok {
			want.done, want.offer = x.index, x.index+16
			want.free = min(want.offer, 4096) - x.last
		}
		want.free = max(0, want.free)
		checkTold(t, "Ack", w, want)
		if w.Ack(x.index) {
			t.Errorf("last %d, done %d: Ack %d once more: true", x.last, x.done, x.index)
		}
		checkTold(t, "Ack once more", w, want)
	}
}

func TestAckOfIndicesThatNeverAre(t *testing.T) {
	w := made(t, 16, 20, 10)
	want := told(w)
	for _, i := range odd() {
		if w.Ack(i) {
			t.Errorf("Ack %d: true", i)
		}
		checkTold(t, "Ack", w, want)
	}
}

// An entry may be done that was not sent, nor granted: it is not sent any sooner.
func TestAckOfWhatWasNotSent(t *testing.T) {
	w := made(t, 4, 0, 0)
	w.Push()
	w.Push()
	if !w.Ack(2) {
		t.Error("Ack 2: false")
	}
	checkTold(t, "Ack", w, state{last: 2, done: 2, offer: 6, free: 4})
	checkNoNext(t, w)
	w.Grant(1)
	checkNext(t, w, 1)
	checkNoNext(t, w)
}

// P4.4: the greatest of all that was granted holds, up to what an Offer is at most.
func TestGrant(t *testing.T) {
	w := made(t, 2, 3, 2)
	for _, x := range []struct{ grant, limit int }{
		{-1, 0}, {math.MinInt, 0}, {0, 0}, {1, 1}, {0, 1}, {-1, 1}, {9, 9}, {8, 9}, {9, 9}, {math.MinInt, 9}, {10, 10},
		{4095, 4095}, {4096, 4096}, {4097, 4097}, {4111, 4111}, {4110, 4111}, {4112, 4112}, {4111, 4112}, {4113, 4112},
		{math.MaxInt, 4112}, {-1, 4112},
	} {
		w.Grant(x.grant)
		checkTold(t, "Grant", w, state{3, 2, 3, x.limit, 4, 1})
	}
}

func TestGrantOfOddNumbers(t *testing.T) {
	for _, l := range odd() {
		want := 0
		if l > 0 {
			want = 4112
		}
		w := made(t, 2, 3, 2)
		w.Grant(l)
		checkTold(t, "Grant", w, state{3, 2, 3, want, 4, 1})
		w.Grant(7)
		if w.Limit() != max(7, want) {
			t.Errorf("Grant %d, 7: Limit %d", l, w.Limit())
		}
	}
}

func TestNextIsNoneWithoutAGrant(t *testing.T) {
	w := made(t, 16, 0, 0)
	checkNoNext(t, w)
	for range 16 {
		w.Push()
		checkNoNext(t, w)
	}
	w.Grant(0)
	w.Grant(-1)
	checkNoNext(t, w)
}

// Next goes up to the lesser one of Limit and Last, one by one, and on when that is more.
func TestNextUpToLimitAndUpToLast(t *testing.T) {
	for limit := range 20 {
		for last := range 17 {
			w := made(t, 16, 0, 0)
			for range last {
				w.Push()
			}
			w.Grant(limit)
			for want := 1; want <= min(limit, last); want++ {
				checkNext(t, w, want)
				checkTold(t, "Next", w, state{last, 0, want, limit, 16, 16 - last})
			}
			checkNoNext(t, w)
			w.Grant(limit + 1)
			if limit < last {
				checkNext(t, w, limit+1)
			}
			checkNoNext(t, w)
			if w.Sent() == last && w.Push() {
				w.Grant(last + 1)
				checkNext(t, w, last+1)
			}
			checkNoNext(t, w)
		}
	}
}

// What was granted may be less than what was sent: none is next, until it is more.
func TestNextWhereLessIsGrantedThanWasSent(t *testing.T) {
	w := made(t, 16, 10, 5)
	w.Push()
	for limit := 1; limit <= 10; limit++ {
		w.Grant(limit)
		checkNoNext(t, w)
	}
	w.Grant(11)
	checkNext(t, w, 11)
	checkNoNext(t, w)
}

func TestNextToTheEndOfTheLog(t *testing.T) {
	w := made(t, 16, 4094, 4094)
	w.Push()
	w.Push()
	w.Grant(math.MaxInt)
	checkNext(t, w, 4095)
	checkNext(t, w, 4096)
	checkNoNext(t, w)
	w.Back(0)
	for want := 1; want <= 4096; want++ {
		checkNext(t, w, want)
	}
	checkNoNext(t, w)
}

// P4.5: Back to what is had, within what there is; Done and Limit stay.
func TestBack(t *testing.T) {
	for _, x := range []struct{ have, sent int }{
		{0, 0}, {1, 1}, {4, 4}, {5, 5}, {8, 8}, {9, 9}, {10, 9}, {11, 9}, {4096, 9}, {-1, 0}, {-9, 0},
	} {
		w := made(t, 16, 9, 5)
		w.Grant(7)
		w.Back(x.have)
		checkTold(t, "Back", w, state{9, 5, x.sent, 7, 21, 12})
		if x.sent < 7 {
			checkNext(t, w, x.sent+1)
		} else {
			checkNoNext(t, w)
		}
	}
}

func TestBackOfOddNumbers(t *testing.T) {
	for _, have := range odd() {
		for _, last := range []int{0, 1, 9, 4096} {
			for _, sent := range []int{0, last / 2, last} {
				w := made(t, 16, last, last)
				w.Back(sent)
				w.Back(have)
				want := 0
				if have > 0 {
					want = last
				}
				if w.Sent() != want || w.Last() != last || w.Done() != last {
					t.Errorf("last %d, sent %d: Back %d: %+v", last, sent, have, told(w))
				}
			}
		}
	}
}

// Back may also go ahead: what the next one has needs not be sent.
func TestBackGoesAhead(t *testing.T) {
	w := made(t, 16, 9, 5)
	w.Grant(16)
	w.Back(2)
	w.Back(6)
	checkNext(t, w, 7)
}

func TestRenew(t *testing.T) {
	w := made(t, 16, 9, 5)
	w.Push()
	w.Grant(10)
	w.Back(3)
	for range 2 {
		w.Renew()
		checkTold(t, "Renew", w, state{10, 5, 10, 0, 21, 11})
		checkNoNext(t, w)
	}
	w.Push()
	checkNoNext(t, w)
	w.Grant(9)
	checkTold(t, "Grant behind Renew", w, state{11, 5, 10, 9, 21, 10})
	checkNoNext(t, w)
	w.Grant(11)
	checkNext(t, w, 11)
	w.Renew()
	checkTold(t, "Renew", w, state{11, 5, 11, 0, 21, 10})
}

// open is a window in which each step changes something, with 7 as its number.
func open(t *testing.T) *windows.Window {
	t.Helper()
	w := made(t, 4, 8, 5)
	w.Grant(6)
	w.Back(5)
	return w
}

func TestCopyTellsTheSame(t *testing.T) {
	w := open(t)
	want := state{8, 5, 5, 6, 9, 1}
	for range 2 {
		c := w.Copy()
		checkTold(t, "Copy", c, want)
		checkTold(t, "Copy of the copy", c.Copy(), want)
		checkTold(t, "the one that was copied", w, want)
	}
	fresh := made(t, 1, 0, 0)
	checkTold(t, "Copy of a new one", fresh.Copy(), told(fresh))
}

func TestCopyGoesOnByItself(t *testing.T) {
	for _, s := range steps() {
		w := open(t)
		before := told(w)
		c := w.Copy()
		s.ask(c, 7)
		changed := told(c)
		if changed == before {
			t.Fatalf("%s changes nothing", s.name)
		}
		checkTold(t, s.name+" of the copy, the other one", w, before)
		s.ask(w, 7)
		checkTold(t, s.name+" of both, the copy", c, changed)
		checkTold(t, s.name+" of both, the other one", w, changed)
		for _, other := range steps() {
			c = w.Copy()
			kept := told(w)
			other.ask(w, 8)
			checkTold(t, s.name+", Copy, "+other.name+" of the other one", c, kept)
		}
	}
}

// A copy takes, sends and ends as many as the one that was copied would.
func TestCopyGoesOnToTheEnd(t *testing.T) {
	c := made(t, 4, 4092, 4092).Copy()
	c.Grant(4096)
	for want := 4093; want <= 4096; want++ {
		if !c.Push() || !c.Ack(want) {
			t.Fatalf("Push, Ack %d: not true, true", want)
		}
		checkNext(t, c, want)
	}
	checkTold(t, "the copy", c, state{4096, 4096, 4096, 4096, 4100, 0})
}
