package windows_test

import (
	"testing"

	"fairway/api"
	"fairway/windows"
)

// book is what a window must tell, kept entry by entry.
type book struct {
	capacity int
	entries  []entry
	granted  int
}

type entry struct{ done, sent bool }

func newBook(capacity, last, done int) *book {
	b := &book{capacity: capacity}
	for i := 1; i <= last; i++ {
		b.entries = append(b.entries, entry{done: i <= done, sent: true})
	}
	return b
}

// count is how many entries there are of which that holds.
func (b *book) count(holds func(e entry) bool) int {
	n := 0
	for _, e := range b.entries {
		if holds(e) {
			n++
		}
	}
	return n
}

func (b *book) done() int { return b.count(func(e entry) bool { return e.done }) }
func (b *book) sent() int { return b.count(func(e entry) bool { return e.sent }) }

func (b *book) push() bool {
	open := b.count(func(e entry) bool { return !e.done })
	if open >= b.capacity || len(b.entries) >= 4096 {
		return false
	}
	b.entries = append(b.entries, entry{})
	return true
}

func (b *book) ack(i int) bool {
	if i < 1 || i > len(b.entries) || b.entries[i-1].done {
		return false
	}
	for n := range i {
		b.entries[n].done = true
	}
	return true
}

func (b *book) grant(l int) {
	for i := 1; i <= l && i <= 4112; i++ {
		if i > b.granted {
			b.granted = i
		}
	}
}

func (b *book) next() (int, bool) {
	for n := range b.entries {
		if !b.entries[n].sent {
			if n+1 > b.granted {
				return 0, false
			}
			b.entries[n].sent = true
			return n + 1, true
		}
	}
	return 0, false
}

func (b *book) back(have int) {
	for n := range b.entries {
		b.entries[n].sent = n < have
	}
}

func (b *book) renew() {
	b.back(len(b.entries))
	b.granted = 0
}

func (b *book) copied() *book {
	return &book{capacity: b.capacity, entries: append([]entry(nil), b.entries...), granted: b.granted}
}

// free is how many pushes would be taken.
func (b *book) free() int {
	c, n := b.copied(), 0
	for c.push() {
		n++
	}
	return n
}

// state is all that a window tells without being changed.
type state struct{ last, done, sent, limit, offer, free int }

func told(w *windows.Window) state {
	return state{w.Last(), w.Done(), w.Sent(), w.Limit(), w.Offer(), w.Free()}
}

func (b *book) state() state {
	return state{len(b.entries), b.done(), b.sent(), b.granted, b.done() + b.capacity, b.free()}
}

// step is one call, by a number, of a window and of a book.
type step struct {
	name string
	ask  func(w *windows.Window, arg int) (int, bool)
	book func(b *book, arg int) (int, bool)
}

func steps() []step {
	return []step{
		{"Push", func(w *windows.Window, _ int) (int, bool) { return 0, w.Push() }, func(b *book, _ int) (int, bool) { return 0, b.push() }},
		{"Ack", func(w *windows.Window, i int) (int, bool) { return 0, w.Ack(i) }, func(b *book, i int) (int, bool) { return 0, b.ack(i) }},
		{"Grant", func(w *windows.Window, l int) (int, bool) { w.Grant(l); return 0, true }, func(b *book, l int) (int, bool) { b.grant(l); return 0, true }},
		{"Next", func(w *windows.Window, _ int) (int, bool) { return w.Next() }, func(b *book, _ int) (int, bool) { return b.next() }},
		{"Back", func(w *windows.Window, have int) (int, bool) { w.Back(have); return 0, true }, func(b *book, have int) (int, bool) { b.back(have); return 0, true }},
		{"Renew", func(w *windows.Window, _ int) (int, bool) { w.Renew(); return 0, true }, func(b *book, _ int) (int, bool) { b.renew(); return 0, true }},
	}
}

// checkStep asks both for the same, and holds what they answer, and what they tell then, against each other.
func checkStep(t *testing.T, s step, arg int, w *windows.Window, b *book) {
	t.Helper()
	before := told(w)
	n, ok := s.ask(w, arg)
	wantN, wantOK := s.book(b, arg)
	if n != wantN || ok != wantOK {
		t.Fatalf("capacity %d, %+v: %s %d: %d, %t, not %d, %t", b.capacity, before, s.name, arg, n, ok, wantN, wantOK)
	}
	if got, want := told(w), b.state(); got != want {
		t.Fatalf("capacity %d, %+v: behind %s %d: %+v, not %+v", b.capacity, before, s.name, arg, got, want)
	}
}

// both is a window and a book of these numbers.
func both(t *testing.T, capacity, last, done, sent, limit int) (*windows.Window, *book) {
	t.Helper()
	w, b := made(t, capacity, last, done), newBook(capacity, last, done)
	w.Grant(limit)
	b.grant(limit)
	w.Back(sent)
	b.back(sent)
	if got, want := told(w), b.state(); got != want || got.sent != sent || got.limit != limit {
		t.Fatalf("New(%d, %d, %d), Grant %d, Back %d: %+v, not %+v", capacity, last, done, limit, sent, got, want)
	}
	return w, b
}

// P4.2 to P4.5: each call, in each state that there is of short logs, with each number near them and far beyond.
func TestEachStepInEachStateOfShortLogs(t *testing.T) {
	args := append(odd(), 0, 1, 2, 3, 4, 5, 6, 7)
	for capacity := 1; capacity <= 3; capacity++ {
		for last := range 5 {
			for done := range last + 1 {
				for sent := range last + 1 {
					for limit := range 7 {
						w, b := both(t, capacity, last, done, sent, limit)
						for _, s := range steps() {
							for _, arg := range args {
								checkStep(t, s, arg, w.Copy(), b.copied())
							}
						}
					}
				}
			}
		}
	}
}

func TestEachStepNearTheEndOfTheLog(t *testing.T) {
	args := append(odd(), 0, 1)
	for i := api.MaxLog - 3; i <= api.MaxLog+api.MaxWindow+1; i++ {
		args = append(args, i)
	}
	for _, capacity := range []int{1, 2, 16} {
		for _, last := range []int{api.MaxLog - 1, api.MaxLog} {
			for _, done := range []int{last - 16, last - 1, last} {
				for _, limit := range []int{0, last, api.MaxLog + api.MaxWindow} {
					w, b := both(t, capacity, last, done, last-1, limit)
					for _, s := range steps() {
						for _, arg := range args {
							checkStep(t, s, arg, w.Copy(), b.copied())
						}
					}
				}
			}
		}
	}
}

// P4.6: long rows of steps, of which many are near where the window is; and what follows holds behind each of them.
func TestLongRowsOfSteps(t *testing.T) {
	number := uint32(1)
	pick := func(n int) int {
		number = number*1664525 + 1013904223
		return int(number>>16) % n
	}
	all := steps()
	for capacity := 1; capacity <= 16; capacity++ {
		for _, begin := range []int{0, 5} {
			w, b := made(t, capacity, begin, 0), newBook(capacity, begin, 0)
			for range 1500 {
				s := all[pick(len(all)+2)%len(all)]
				near := []int{w.Done(), w.Last(), w.Sent(), w.Limit(), w.Offer()}[pick(5)]
				checkStep(t, s, near+pick(7)-3, w, b)
				checkWhatFollows(t, w, b)
			}
		}
	}
}

func checkWhatFollows(t *testing.T, w *windows.Window, b *book) {
	t.Helper()
	if w.Done() > w.Last() || w.Sent() > w.Last() || w.Done() < 0 || w.Sent() < 0 || w.Limit() < 0 {
		t.Fatalf("%+v", told(w))
	}
	if n, ok := w.Copy().Next(); ok && (n > w.Limit() || n > w.Last()) {
		t.Fatalf("%+v: Next: %d", told(w), n)
	}
	if ok := w.Copy().Push(); ok != (w.Last()-w.Done() < b.capacity && w.Last() < api.MaxLog) {
		t.Fatalf("capacity %d, %+v: Push: %t", b.capacity, told(w), ok)
	}
}

// The rule R2: what was asked ahead decides alone, whatever is asked of others between.
func TestTheSameStepsAreAnsweredTheSame(t *testing.T) {
	all := steps()
	for _, capacity := range []int{1, 3, 16} {
		a, b := made(t, capacity, 0, 0), made(t, capacity, 0, 0)
		other := made(t, capacity, 9, 4)
		for n := range 2000 {
			s, arg := all[(n*n+n/5)%len(all)], a.Done()+(n/3)%(2*capacity+2)
			first, is := s.ask(a, arg)
			s.ask(other, n%64)
			second, ok := s.ask(b, arg)
			if first != second || is != ok || told(a) != told(b) {
				t.Fatalf("capacity %d, step %d, %s %d: %+v and %+v", capacity, n, s.name, arg, told(a), told(b))
			}
		}
	}
}
