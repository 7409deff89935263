package counts_test

import (
	"math"
	"slices"
	"testing"

	"fairway/api"
	"fairway/counts"
)

// top is what a counter is at most.
const top int64 = 1 << 62

// odd is numbers far below and far beyond those of counters, and how many there may be.
func odd() []int {
	l := []int{-1, -2, -63, -64, -65, 65, 66, 127, 128, 129, 1000, math.MinInt, math.MinInt + 1, math.MinInt + 64, math.MaxInt, math.MaxInt - 1, math.MaxInt - 64}
	for power := 8; power < 63; power++ {
		l = append(l, 1<<power-1, 1<<power, 1<<power+1, -1<<power-1, -1<<power, -1<<power+1)
	}
	return l
}

// below is numbers by which none is added.
func below() []int64 {
	l := []int64{-1, -2, -3, math.MinInt64, math.MinInt64 + 1, math.MinInt64 + 2, -top, -top - 1, -top + 1}
	for power := 2; power < 62; power++ {
		l = append(l, -1<<power, -1<<power-1, -1<<power+1)
	}
	return l
}

func made(t *testing.T, n int) *counts.Counts {
	t.Helper()
	c, e := counts.New(n)
	if e != api.OK || c == nil {
		t.Fatalf("New(%d) tells %v", n, e)
	}
	return c
}

// madeOf is counters that are these.
func madeOf(t *testing.T, list ...int64) *counts.Counts {
	t.Helper()
	c := made(t, len(list))
	for i, n := range list {
		checkAdd(t, c, i, n, n)
	}
	return c
}

func checkAdd(t *testing.T, c *counts.Counts, i int, by, want int64) {
	t.Helper()
	if got, e := c.Add(i, by); got != want || e != api.OK {
		t.Fatalf("Add(%d, %d) = %d, %v, not %d", i, by, got, e, want)
	}
}

func checkRefused(t *testing.T, c *counts.Counts, i int, by int64, want api.Errno) {
	t.Helper()
	if got, e := c.Add(i, by); got != 0 || e != want {
		t.Errorf("Add(%d, %d) = %d, %v, not 0, %v", i, by, got, e, want)
	}
}

// check holds all that is told of counters against what they are.
func check(t *testing.T, c *counts.Counts, want ...int64) {
	t.Helper()
	for range 2 {
		if got := c.List(); !slices.Equal(got, want) {
			t.Fatalf("List: %v, not %v", got, want)
		}
		for i, n := range want {
			if got := c.Get(i); got != n {
				t.Fatalf("Get(%d) = %d, not %d", i, got, n)
			}
		}
	}
}

// none is counters that are nil, or that New did not make, made anew.
func none() map[string]*counts.Counts {
	refused, _ := counts.New(0)
	return map[string]*counts.Counts{"nil": nil, "zero": {}, "refused": refused, "copied": (&counts.Counts{}).Copy()}
}

// P7.1: each number of counters that may be: just so many, each 0.
func TestNew(t *testing.T) {
	for n := 1; n <= 64; n++ {
		check(t, made(t, n), make([]int64, n)...)
		c := made(t, n)
		checkAdd(t, c, n-1, 5, 5)
		checkRefused(t, c, n, 5, api.ErrNone)
		want := make([]int64, n)
		want[n-1] = 5
		check(t, c, want...)
	}
}

func TestNewRefusesWhatMayNotBe(t *testing.T) {
	for _, n := range append(odd(), 0) {
		if c, e := counts.New(n); c != nil || e != api.ErrArg {
			t.Errorf("New(%d) = %v, %v", n, c, e)
		}
	}
}

func TestCountersAreApart(t *testing.T) {
	a, b := made(t, 2), made(t, 2)
	checkAdd(t, a, 0, 7, 7)
	checkAdd(t, b, 1, 9, 9)
	check(t, a, 7, 0)
	check(t, b, 0, 9)
}

// The chapter's examples.
func TestExamples(t *testing.T) {
	c := made(t, 2)
	checkAdd(t, c, 1, 5, 5)
	checkAdd(t, c, 1, 1<<62, 1<<62)
	checkRefused(t, c, 2, 1, api.ErrNone)
	checkRefused(t, c, 0, -1, api.ErrArg)
	check(t, c, 0, 1<<62)
}

// P7.2: only the counter that is asked for is more.
func TestAdd(t *testing.T) {
	c := made(t, 3)
	checkAdd(t, c, 0, 0, 0)
	checkAdd(t, c, 0, 1, 1)
	checkAdd(t, c, 0, 0, 1)
	checkAdd(t, c, 0, 1, 2)
	check(t, c, 2, 0, 0)
	checkAdd(t, c, 2, 1<<40, 1<<40)
	checkAdd(t, c, 2, 0, 1<<40)
	checkAdd(t, c, 2, 1, 1<<40+1)
	check(t, c, 2, 0, 1<<40+1)
	checkAdd(t, c, 1, 1<<31, 1<<31)
	checkAdd(t, c, 1, 1<<31, 1<<32)
	checkAdd(t, c, 1, 1<<32-1, 1<<33-1)
	check(t, c, 2, 1<<33-1, 1<<40+1)
}

// P7.2: a counter is 2^62 at most, by whatever it is brought there, and however often.
func TestAddUpToTheMost(t *testing.T) {
	for _, x := range []struct{ first, by, want int64 }{
		{0, top - 1, top - 1}, {0, top, top}, {0, top + 1, top}, {0, math.MaxInt64 - 1, top}, {0, math.MaxInt64, top},
		{1, top - 2, top - 1}, {1, top - 1, top}, {1, top, top}, {1, top + 1, top}, {1, math.MaxInt64 - 1, top}, {1, math.MaxInt64, top},
		{2, math.MaxInt64 - 2, top}, {2, math.MaxInt64 - 1, top}, {2, math.MaxInt64, top},
		{1 << 40, top - 1<<40 - 1, top - 1}, {1 << 40, top - 1<<40, top}, {1 << 40, top - 1<<40 + 1, top}, {1 << 40, math.MaxInt64 - 1<<40, top}, {1 << 40, math.MaxInt64 - 1<<40 + 1, top}, {1 << 40, math.MaxInt64, top},
		{top / 2, top/2 - 1, top - 1}, {top / 2, top / 2, top}, {top / 2, top/2 + 1, top}, {top / 2, top, top}, {top / 2, math.MaxInt64, top},
		{top - 2, 0, top - 2}, {top - 2, 1, top - 1}, {top - 2, 2, top}, {top - 2, 3, top}, {top - 2, math.MaxInt64, top},
		{top - 1, 0, top - 1}, {top - 1, 1, top}, {top - 1, 2, top}, {top - 1, top - 1, top}, {top - 1, top, top}, {top - 1, top + 1, top}, {top - 1, top + 2, top}, {top - 1, math.MaxInt64, top},
		{top, 0, top}, {top, 1, top}, {top, 2, top}, {top, top - 1, top}, {top, top, top}, {top, top + 1, top}, {top, math.MaxInt64 - 1, top}, {top, math.MaxInt64, top},
	} {
		c := madeOf(t, x.first, x.first)
		checkAdd(t, c, 1, x.by, x.want)
		check(t, c, x.first, x.want)
		checkAdd(t, c, 1, 0, x.want)
		checkAdd(t, c, 1, 1, min(x.want+1, top))
		for _, by := range []int64{math.MaxInt64, 0, 1, top, top - 1, top + 1, math.MaxInt64, 0} {
			checkAdd(t, c, 1, by, top)
			check(t, c, x.first, top)
		}
	}
}

// Each power of 2, and those next to it, from 0 and from just as much below the most.
func TestAddPowersOfTwo(t *testing.T) {
	for power := range 62 {
		for _, by := range []int64{1<<power - 1, 1 << power, 1<<power + 1} {
			c := made(t, 1)
			checkAdd(t, c, 0, by, by)
			checkAdd(t, c, 0, top-by-1, top-1)
			checkAdd(t, c, 0, by, min(top-1+by, top))
			d := madeOf(t, top-by)
			checkAdd(t, d, 0, by, top)
			checkAdd(t, d, 0, by, top)
		}
	}
}

// P7.2: none is added by less than 0: whatever counter it is, and whatever it was.
func TestAddRefusesLess(t *testing.T) {
	c := madeOf(t, 5, top, top-1, 0)
	for _, by := range below() {
		for _, i := range append(odd(), 0, 1, 2, 3, 4) {
			checkRefused(t, c, i, by, api.ErrArg)
		}
		check(t, c, 5, top, top-1, 0)
	}
}

// P7.2: there is no such counter: whatever is to be added.
func TestAddRefusesOneThatIsNone(t *testing.T) {
	for _, n := range []int{1, 2, 3, 63, 64} {
		c := made(t, n)
		for i := range n {
			checkAdd(t, c, i, int64(i+1), int64(i+1))
		}
		want := c.List()
		for _, i := range append(odd(), n, n+1) {
			if i >= 0 && i < n {
				continue
			}
			for _, by := range []int64{0, 1, 2, 1 << 40, top - 1, top, top + 1, math.MaxInt64} {
				checkRefused(t, c, i, by, api.ErrNone)
			}
		}
		check(t, c, want...)
	}
}

// P7.3: what one is; 0 of one that is none.
func TestGet(t *testing.T) {
	for _, n := range []int{1, 2, 64} {
		c := made(t, n)
		for i := range n {
			checkAdd(t, c, i, int64(100+i), int64(100+i))
		}
		for i := range n {
			if got := c.Get(i); got != int64(100+i) {
				t.Errorf("Get(%d) = %d", i, got)
			}
		}
		for _, i := range append(odd(), n, n+1) {
			if i >= 0 && i < n {
				continue
			}
			if got := c.Get(i); got != 0 {
				t.Errorf("of %d: Get(%d) = %d", n, i, got)
			}
		}
	}
}

// P7.3: a list is the caller's own: what is written into it changes no counter, and no other list.
func TestListIsTheCallersOwn(t *testing.T) {
	c := madeOf(t, 1, 2, 3)
	list, other := c.List(), c.List()
	list[0], list[2] = 70, -5
	list = append(list, 9)
	clear(list[1:])
	check(t, c, 1, 2, 3)
	checkAdd(t, c, 1, 5, 7)
	check(t, c, 1, 7, 3)
	if !slices.Equal(other, []int64{1, 2, 3}) {
		t.Errorf("a list that was told is %v now", other)
	}
}

// What stands behind a list is the caller's own, too.
func TestListsDoNotShareWhatStandsBehindThem(t *testing.T) {
	c := madeOf(t, 1, 2, 3)
	a, b := c.List(), c.List()
	a, b = append(a, 4), append(b, 5)
	if a[3] != 4 || b[3] != 5 {
		t.Errorf("%v, %v", a, b)
	}
	check(t, c, 1, 2, 3)
}

// P7.3: a copy is like them: as many, each the same.
func TestCopyTellsTheSame(t *testing.T) {
	for n := 1; n <= 64; n++ {
		c, want := made(t, n), make([]int64, n)
		check(t, c.Copy(), want...)
		for i := range n {
			want[i] = min(top, int64(i)<<56+int64(n-i))
			checkAdd(t, c, i, want[i], want[i])
		}
		check(t, c.Copy(), want...)
		check(t, c.Copy().Copy(), want...)
		checkRefused(t, c.Copy(), n, 1, api.ErrNone)
		check(t, c, want...)
	}
}

// P7.3: neither knows what the other one is added to.
func TestCopyGoesOnByItself(t *testing.T) {
	c := madeOf(t, 0, 5, top)
	d := c.Copy()
	checkAdd(t, d, 0, 1, 1)
	check(t, c, 0, 5, top)
	checkAdd(t, c, 1, 2, 7)
	check(t, d, 1, 5, top)
	checkAdd(t, d, 1, top, top)
	checkAdd(t, c, 0, 9, 9)
	check(t, c, 9, 7, top)
	check(t, d, 1, top, top)
	e := d.Copy()
	checkAdd(t, d, 0, 1, 2)
	checkAdd(t, e, 0, 2, 3)
	check(t, c, 9, 7, top)
	check(t, d, 2, top, top)
	check(t, e, 3, top, top)
}

// The chapter says what of counters that are none is told; nothing that is asked makes any of them.
func TestCountersThatAreNone(t *testing.T) {
	for name, c := range none() {
		for range 2 {
			for _, i := range append(odd(), 0, 1, 63, 64) {
				for _, by := range append(below(), 0, 1, 5, top-1, top, top+1, math.MaxInt64) {
					if got, e := c.Add(i, by); got != 0 || e != api.ErrNil {
						t.Fatalf("%s: Add(%d, %d) = %d, %v", name, i, by, got, e)
					}
				}
				if got := c.Get(i); got != 0 {
					t.Fatalf("%s: Get(%d) = %d", name, i, got)
				}
			}
			if l := c.List(); len(l) != 0 {
				t.Errorf("%s: List: %v", name, l)
			}
			if d := c.Copy(); d != nil {
				t.Errorf("%s: Copy: %v", name, d)
			}
		}
	}
}
