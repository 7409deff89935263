package links_test

import (
	"testing"

	"fairway/api"
	"fairway/links"
)

// two is the pairs of links of which a copy is taken.
func two() [][2]int {
	return [][2]int{{0, 1}, {5, 0}}
}

// ready is links to which each change may be made, which have also mail of another pair.
func ready(t *testing.T) *links.Links {
	t.Helper()
	l := madeOf(t, 4, 0, 1, "a", "b", "c")
	checkSend(t, l, mail(5, 0, "d"), api.OK)
	return l
}

func checkReady(t *testing.T, l *links.Links) {
	t.Helper()
	checkHas(t, l, 0, 1, "a", "b", "c")
	checkHas(t, l, 5, 0, "d")
	checkPairs(t, l, 4, two()...)
}

// checkChanged looks for what a change made of links that were ready.
func checkChanged(t *testing.T, l *links.Links, x change) {
	t.Helper()
	checkHas(t, l, 0, 1, x.want...)
	checkHas(t, l, 5, 0, "d")
	if len(x.want) > 0 {
		checkPairs(t, l, len(x.want)+1, two()...)
	} else {
		checkPairs(t, l, 1, two()[1])
	}
}

// P14.4: each change of one of both makes no difference to the other one.
func TestCopyGoesOnByItself(t *testing.T) {
	for _, x := range changes() {
		first, second := ready(t), ready(t)
		firstCopy, secondCopy := first.Copy(), second.Copy()
		checkReady(t, firstCopy)
		x.change(first)
		x.change(secondCopy)
		checkChanged(t, first, x)
		checkChanged(t, secondCopy, x)
		checkReady(t, firstCopy)
		checkReady(t, second)
	}
}

// P14.4: both go on, by different changes, also where there is room behind a pair's mail.
func TestBothGoOn(t *testing.T) {
	for room := range 6 {
		for _, x := range changes() {
			for _, y := range changes() {
				l := made(t, 10)
				for range room {
					checkSend(t, l, mail(0, 1, "room"), api.OK)
				}
				for _, s := range []string{"a", "b", "c"} {
					checkSend(t, l, mail(0, 1, s), api.OK)
				}
				for range room {
					checkDrop(t, l, 0, 1, 0, api.OK)
				}
				checkSend(t, l, mail(5, 0, "d"), api.OK)
				c := l.Copy()
				x.change(l)
				y.change(c)
				checkChanged(t, l, x)
				checkChanged(t, c, y)
			}
		}
	}
}

// P14.4: what both have of another pair, and of one that comes later, is each one's own.
func TestCopyOfOtherPairs(t *testing.T) {
	l := ready(t)
	c := l.Copy()
	checkSend(t, l, mail(16, 32, "of the first"), api.OK)
	checkPairs(t, c, 4, two()...)
	checkHas(t, c, 16, 32)
	checkSend(t, c, mail(16, 32, "of the copy"), api.OK)
	checkHas(t, l, 16, 32, "of the first")
	checkDeliver(t, c, 5, 0, 0, "d")
	checkHas(t, l, 5, 0, "d")
	checkDrop(t, l, 5, 0, 0, api.OK)
	checkHas(t, c, 16, 32, "of the copy")
	checkPairs(t, l, 4, [2]int{0, 1}, [2]int{16, 32})
	checkPairs(t, c, 4, [2]int{0, 1}, [2]int{16, 32})
}

// P14.4: a copy of links without mail are links, as is a copy of a copy, with the same capacity.
func TestCopyOfOneWithoutMail(t *testing.T) {
	for _, capacity := range []int{1, 2, 63, 64} {
		fresh, emptied := made(t, capacity), madeOf(t, capacity, 0, 1, "a")
		checkDeliver(t, emptied, 0, 1, 0, "a")
		for _, l := range []*links.Links{fresh, emptied} {
			for _, c := range []*links.Links{l.Copy(), l.Copy().Copy()} {
				if c == nil {
					t.Fatal("Copy tells nil")
				}
				checkPairs(t, c, 0)
				checkHas(t, c, 0, 1)
				fill(t, c, capacity, 0, 1)
				fill(t, c, capacity, 1, 0)
				checkPairs(t, l, 0)
			}
		}
	}
}

// fill sends of a pair without mail, until it is full.
func fill(t *testing.T, l *links.Links, capacity, from, to int) {
	t.Helper()
	for n := range capacity {
		checkSend(t, l, mail(from, to, text(n)), api.OK)
	}
	checkSend(t, l, mail(from, to, "more"), api.ErrFull)
	checkDouble(t, l, from, to, 0, api.ErrFull)
}

// P14.4: a copy of full links is full, until it itself has less.
func TestCopyOfFullOnes(t *testing.T) {
	for _, capacity := range []int{1, 2, 64} {
		l := made(t, capacity)
		for _, p := range allPairs() {
			fill(t, l, capacity, p[0], p[1])
		}
		c := l.Copy()
		checkPairs(t, c, capacity*13*12, allPairs()...)
		for _, p := range allPairs() {
			checkDeliver(t, l, p[0], p[1], 0, "")
			checkSend(t, c, mail(p[0], p[1], "more"), api.ErrFull)
			checkDouble(t, c, p[0], p[1], capacity-1, api.ErrFull)
			checkSend(t, l, mail(p[0], p[1], "more"), api.OK)
			for n := range capacity {
				checkDeliver(t, c, p[0], p[1], 0, text(n))
			}
			checkHas(t, c, p[0], p[1])
		}
		checkPairs(t, l, capacity*13*12, allPairs()...)
		checkPairs(t, c, 0)
	}
}
