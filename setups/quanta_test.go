package setups_test

import (
	"math"
	"slices"
	"testing"

	"fairway/api"
	"fairway/setups"
)

// P15.1: none, nil and empty, also with room behind: one of MaxCost.
func TestNoQuanta(t *testing.T) {
	some := []int{300, 400}
	for _, l := range [][]int{nil, {}, make([]int, 0, 6), some[:0], some[1:1], some[2:]} {
		for _, base := range taken() {
			c := quanta(base, l...)
			checkTaken(t, c, false)
			checkFit(t, c, quanta(base, 96))
			checkAll(t, c)
		}
	}
}

// P15.1: so many quanta, each of which may be: the first four, in their order.
func TestHowManyQuanta(t *testing.T) {
	for _, size := range []int{1, 2, 3, 4, 5, 6, 7, 8, 100, 255, 256, 257, 258, 260, 1 << 16, 1<<16 + 1, 1<<16 + 4, 1 << 20} {
		l := make([]int, size)
		for i := range l {
			l[i] = 1000 - 7*(i%100)
		}
		c := quanta(ordinary(), l...)
		checkTaken(t, c, size <= 4)
		checkFit(t, c, quanta(ordinary(), []int{1000, 993, 986, 979}[:min(size, 4)]...))
		checkAll(t, c)
	}
}

// P15.1: each one at its edges, wherever it stands: behind the fourth one it makes no difference to what is fit.
func TestEachQuantum(t *testing.T) {
	for size := 1; size <= 7; size++ {
		for i := range size {
			for _, v := range around(96, 65536) {
				l := []int{201, 202, 203, 204, 205, 206, 207}[:size]
				l[i] = v
				want := []int{201, 202, 203, 204}[:min(size, 4)]
				if i < 4 {
					want[i] = min(max(v, 96), 65536)
				}
				c := quanta(ordinary(), l...)
				checkTaken(t, c, size <= 4 && 96 <= v && v <= 65536)
				checkFit(t, c, quanta(ordinary(), want...))
				checkAll(t, c)
			}
		}
	}
}

// P15.1: all lists of up to five, and some longer ones, each one at an edge.
func TestAllShortLists(t *testing.T) {
	values := []int{math.MinInt, 95, 96, 65536, 65537, math.MaxInt}
	var walk func(l []int)
	walk = func(l []int) {
		checkAll(t, quanta(ordinary(), slices.Clone(l)...))
		if len(l) == 5 {
			return
		}
		for _, v := range values {
			walk(append(slices.Clone(l), v))
		}
	}
	walk(nil)
	for _, v := range values {
		for size := 6; size < 20; size++ {
			checkAll(t, quanta(ordinary(), slices.Repeat([]int{v}, size)...))
		}
	}
}

// P15.1: what stands in the room behind the quanta is none of them, and stays as it was, as do those ahead of them.
func TestQuantaThatAreAPieceOfAList(t *testing.T) {
	for from := range 8 {
		for to := from; to <= 8; to++ {
			for _, v := range []int{0, 95, 300, 65537, math.MinInt, math.MaxInt} {
				whole := slices.Repeat([]int{v}, 8)
				for i := from; i < to; i++ {
					whole[i] = 200 + i
				}
				was := slices.Clone(whole)
				c := quanta(ordinary(), whole[from:to]...)
				checkTaken(t, c, 1 <= to-from && to-from <= 4)
				checkAll(t, c)
				if !slices.Equal(whole, was) {
					t.Fatalf("%d to %d of %v: it is %v", from, to, was, whole)
				}
			}
		}
	}
}

// The rule R4: what becomes of the quanta that were told makes no difference to the ones handed in, also where all stay as they are, nor to what is told next.
func TestQuantaThatAreToldAreTheCallersOwn(t *testing.T) {
	for _, l := range lists() {
		c := quanta(ordinary(), l...)
		was, want := own(c), fitted(c)
		one, other := setups.Fit(c), setups.Fit(c)
		spoil(one.Quanta)
		if !same(c, was) {
			t.Errorf("%v: what was handed in is %v", was, c)
		}
		// Ahead of the next one, that would bring quanta of both within once more.
		if !same(other, want) {
			t.Errorf("Fit(%v), told ahead: %v", c, other)
		}
		if next := setups.Fit(c); !same(next, want) {
			t.Errorf("Fit(%v), told next: %v", c, next)
		}
		again := setups.Fit(other)
		spoil(again.Quanta)
		if !same(other, want) {
			t.Errorf("Fit(%v): what was fit is %v behind Fit of it", c, other)
		}
	}
}

// The rule R4: what becomes of the quanta that were handed in makes no difference to the ones told.
func TestQuantaThatAreHandedInAreNotLookedAtLater(t *testing.T) {
	for _, l := range lists() {
		c := quanta(ordinary(), l...)
		want := fitted(c)
		d := setups.Fit(c)
		spoil(c.Quanta)
		if !same(d, want) {
			t.Errorf("Fit(%v) is %v, when what was handed in has changed", l, d)
		}
		checkTaken(t, d, true)
		checkAll(t, c)
	}
}

// lists is quanta of which all, some and none stay as they are.
func lists() [][]int {
	return [][]int{nil, {}, {96}, {200}, {65536, 96}, {300, 200, 100}, {100, 200, 300, 400}, {1, 200}, {200, 1 << 20}, {100, 200, 300, 400, 500}, {1, 2, 3, 4, 5, 6, 7, 8}, make([]int, 2, 8), []int{100, 200, 300, 400, 500, 600}[1:3]}
}

// spoil makes quanta other ones, and what is in the room behind them.
func spoil(l []int) {
	l = l[:cap(l)]
	for i := range l {
		l[i] = -9
	}
}

// P15.3: quanta are fit for each class by itself: in their order, whatever the others are.
func TestQuantaKeepTheirOrder(t *testing.T) {
	for _, l := range [][]int{{400, 300, 200, 100}, {100, 400, 200, 300}, {65536, 96, 65536, 96}, {97, 97, 97, 97}, {500, 100}, {100, 500}} {
		if d := setups.Fit(api.Config{Quanta: l}); !slices.Equal(d.Quanta, l) {
			t.Errorf("Fit of the quanta %v: %v", l, d.Quanta)
		}
	}
}
