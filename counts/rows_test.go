package counts_test

import (
	"math"
	"math/big"
	"slices"
	"testing"

	"fairway/api"
	"fairway/counts"
)

// more is what is added to a counter.
type more struct {
	i  int
	by int64
}

// sums is what was added to each counter, all of it, by numbers without bounds.
type sums []*big.Int

func newSums(n int) sums {
	s := make(sums, n)
	for i := range s {
		s[i] = new(big.Int)
	}
	return s
}

// add is what the chapter asks for of a step: what the counter is then, and the error.
func (s sums) add(m more) (int64, api.Errno) {
	if m.by < 0 {
		return 0, api.ErrArg
	}
	if m.i < 0 || m.i >= len(s) {
		return 0, api.ErrNone
	}
	s[m.i].Add(s[m.i], big.NewInt(m.by))
	return s.get(m.i), api.OK
}

// get brings a sum down to the most only here: what is above it stays there, however much comes.
func (s sums) get(i int) int64 {
	if most := big.NewInt(top); s[i].Cmp(most) > 0 {
		return top
	}
	return s[i].Int64()
}

func (s sums) list() []int64 {
	var l []int64
	for i := range s {
		l = append(l, s.get(i))
	}
	return l
}

func checkStep(t *testing.T, c *counts.Counts, s sums, m more) {
	t.Helper()
	want, wanted := s.add(m)
	if got, e := c.Add(m.i, m.by); got != want || e != wanted {
		t.Fatalf("Add(%d, %d) = %d, %v, not %d, %v", m.i, m.by, got, e, want, wanted)
	}
	check(t, c, s.list()...)
}

// steps is steps of edges, for two counters.
func steps() []more {
	var l []more
	for i := -1; i <= 2; i++ {
		for _, by := range []int64{math.MinInt64, -1, 0, 1, 2, top - 2, top - 1, top, top + 1, math.MaxInt64} {
			l = append(l, more{i, by})
		}
	}
	return l
}

// P7.2: all rows of three steps.
func TestAllShortRows(t *testing.T) {
	for _, first := range steps() {
		for _, second := range steps() {
			for _, third := range steps() {
				c, s := made(t, 2), newSums(2)
				checkStep(t, c, s, first)
				checkStep(t, c, s, second)
				checkStep(t, c, s, third)
			}
		}
	}
}

// picker picks numbers, always the same ones.
func picker() func(n int) int {
	number := uint32(1)
	return func(n int) int {
		number = number*1664525 + 1013904223
		return int(number>>8) % n
	}
}

// P7.2 and P7.3: long rows of steps, now of small numbers and now of great ones; copies go on in their place.
func TestLongRows(t *testing.T) {
	pick := picker()
	for _, n := range []int{1, 2, 3, 17, 63, 64} {
		c, s := made(t, n), newSums(n)
		for range 2000 {
			m := more{i: pick(n+2) - 1, by: int64(pick(1000) - 100)}
			if pick(4) == 0 {
				m.by <<= pick(53)
			}
			checkStep(t, c, s, m)
			if pick(10) == 0 {
				old := c
				c = c.Copy()
				old.Add(pick(n), int64(pick(1000)))
			}
		}
	}
}

// orders goes through all orders of a list.
func orders(l []more, see func([]more)) {
	var swap func(done int)
	swap = func(done int) {
		if done == len(l) {
			see(l)
			return
		}
		for i := done; i < len(l); i++ {
			l[done], l[i] = l[i], l[done]
			swap(done + 1)
			l[done], l[i] = l[i], l[done]
		}
	}
	swap(0)
}

// P7.4: the same is added in all orders: the end is the same one, also of what is above the most.
func TestInWhichOrderIsAddedMakesNoDifference(t *testing.T) {
	for _, l := range [][]more{
		{{0, 1}, {0, 2}, {1, 3}, {1, 4}, {0, 5}, {2, 6}, {2, 0}},
		{{0, 1}, {0, top - 1}, {0, 0}, {1, top - 2}, {1, 1}, {0, -1}, {3, 1}},
		{{0, 1}, {0, top - 1}, {0, 1}, {1, top}, {1, 7}, {1, math.MaxInt64}},
		{{2, math.MaxInt64}, {2, math.MaxInt64}, {2, top - 1}, {2, 1}, {1, top / 2}, {1, top / 2}, {1, 1}},
		{{0, -5}, {0, 5}, {-1, 5}, {0, math.MinInt64}, {0, math.MaxInt64}, {9, math.MaxInt64}},
	} {
		s := newSums(3)
		for _, m := range l {
			s.add(m)
		}
		want := s.list()
		orders(slices.Clone(l), func(order []more) {
			c := made(t, 3)
			for _, m := range order {
				c.Add(m.i, m.by)
			}
			if got := c.List(); !slices.Equal(got, want) {
				t.Fatalf("%v: %v, not %v", order, got, want)
			}
		})
	}
}

// P7.4: long rows, ahead, back, and those of each counter by themselves.
func TestLongRowsInOtherOrders(t *testing.T) {
	pick := picker()
	for range 100 {
		var l []more
		for range 200 {
			l = append(l, more{i: pick(8), by: int64(pick(1<<20)) << pick(40)})
		}
		ahead, back, grouped := made(t, 8), made(t, 8), made(t, 8)
		for n, m := range l {
			ahead.Add(m.i, m.by)
			m = l[len(l)-1-n]
			back.Add(m.i, m.by)
		}
		slices.SortFunc(l, func(a, b more) int { return a.i - b.i })
		for _, m := range l {
			grouped.Add(m.i, m.by)
		}
		check(t, back, ahead.List()...)
		check(t, grouped, ahead.List()...)
	}
}

// The rule R2: what was asked ahead decides alone, whatever is asked of others, or only looked at, between.
func TestTheSameStepsAreAnsweredTheSame(t *testing.T) {
	a, b, other := made(t, 3), made(t, 3), made(t, 5)
	for range 3 {
		for _, m := range steps() {
			first, e := a.Add(m.i, m.by)
			other.Add(m.i, m.by)
			a.Get(m.i)
			a.List()
			a.Copy().Add(m.i, m.by)
			if second, f := b.Add(m.i, m.by); first != second || e != f {
				t.Fatalf("Add(%d, %d) = %d, %v, and %d, %v", m.i, m.by, first, e, second, f)
			}
		}
	}
	check(t, b, a.List()...)
}
