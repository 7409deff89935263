package counts_test

import (
	"math"
	"runtime"
	"sync"
	"testing"

	"fairway/api"
	"fairway/counts"
)

// adders is how many goroutines add at once, and adds how often each one does.
const (
	adders = 8
	adds   = 50000
)

// together lets so many goroutines begin at once, and waits for the end of all.
func together(n int, work func(n int)) {
	// On one processor they would go on one behind the other, and what is not atomic would hardly be seen.
	defer runtime.GOMAXPROCS(runtime.GOMAXPROCS(n))
	var all sync.WaitGroup
	begin := make(chan struct{})
	for i := range n {
		all.Go(func() {
			<-begin
			work(i)
		})
	}
	close(begin)
	all.Wait()
}

// Several goroutines add to the same counter at once: nothing is lost, and what each one is told was told to no other.
func TestSeveralAddToOneCounter(t *testing.T) {
	c := made(t, 2)
	var told [adders][]int64
	together(adders, func(n int) {
		for range adds {
			is, e := c.Add(1, 1)
			if e != api.OK {
				t.Errorf("Add tells %v", e)
				return
			}
			told[n] = append(told[n], is)
		}
	})
	check(t, c, 0, adders*adds)
	var seen [adders*adds + 1]bool
	for n, list := range told {
		before := int64(0)
		for _, is := range list {
			if is <= before || is > adders*adds || seen[is] {
				t.Fatalf("the goroutine %d was told %d behind %d", n, is, before)
			}
			seen[is] = true
			before = is
		}
	}
}

// P7.4: each goroutine adds to all counters, begins with another one, and adds other numbers.
func TestSeveralAddToAllCounters(t *testing.T) {
	c := made(t, adders)
	together(adders, func(n int) {
		for round := range adds {
			c.Add((n+round)%adders, int64(n+1))
		}
	})
	want := make([]int64, adders)
	for i := range want {
		want[i] = adders * (adders + 1) / 2 * adds / adders
	}
	check(t, c, want...)
}

// Several bring a counter to the most at once: none is told more, and it stays there.
func TestSeveralAddUpToTheMost(t *testing.T) {
	for _, x := range []struct{ first, by, want int64 }{
		{0, math.MaxInt64, top}, {0, top, top}, {top - 1, 1, top}, {top - 5000, 1, top}, {top - 5000, 3, top},
		{0, top / 8 / 1000, top / 8 / 1000 * 8000}, {0, top/8/1000 + 1, top}, {top - 8000, 1, top}, {top - 8001, 1, top - 1},
	} {
		c := madeOf(t, x.first)
		together(8, func(int) {
			before := x.first
			for range 1000 {
				is, e := c.Add(0, x.by)
				if e != api.OK || is > top || is < before {
					t.Errorf("Add(0, %d) = %d, %v, behind %d", x.by, is, e, before)
					return
				}
				before = is
			}
		})
		check(t, c, x.want)
	}
}

// Who looks while others add sees no counter fall, and none above what is added; a copy that is made then goes on by itself.
func TestOthersLookWhileSeveralAdd(t *testing.T) {
	c := made(t, 2)
	together(adders, func(n int) {
		if n%2 == 0 {
			for range adds {
				c.Add(0, 1)
				c.Add(1, 2)
			}
			return
		}
		look(t, c)
	})
	check(t, c, adders/2*adds, adders*adds)
}

func look(t *testing.T, c *counts.Counts) {
	var before int64
	for range 2000 {
		now := c.Get(0)
		list := c.List()
		other := c.Copy()
		copied := other.Get(0)
		if now < before || len(list) != 2 || list[0] < now || copied < list[0] || copied > adders/2*adds {
			t.Errorf("%d, then %d, %v, %d", before, now, list, copied)
			return
		}
		if is, e := other.Add(0, 3); is != copied+3 || e != api.OK {
			t.Errorf("a copy's %d and 3 are %d, %v", copied, is, e)
			return
		}
		before = copied
	}
}

// Who is refused while others add changes nothing.
func TestSeveralAreRefusedWhileOthersAdd(t *testing.T) {
	c := made(t, 1)
	together(adders, func(n int) {
		for range 2000 {
			c.Add(0, 1)
			c.Add(0, -1)
			c.Add(1, 1)
			c.Add(-1, math.MinInt64)
			c.Copy().Add(0, 1)
		}
	})
	check(t, c, adders*2000)
}
