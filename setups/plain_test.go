package setups_test

import (
	"math"
	"slices"
	"testing"

	"fairway/api"
	"fairway/chains"
	"fairway/setups"
)

const tick = 1 << 40 // the greatest Refill

// ordinary is a configuration that may be, none of whose numbers is at an edge; two of them are the same nowhere.
func ordinary() api.Config {
	return api.Config{Nodes: 5, Chain: 3, Clients: 4, Quanta: []int{200, 100, 300}, Queue: 7, Window: 8, Reads: 9, Link: 20, Patience: 11, Timeout: 12, Budget: 6, Refill: 1000}
}

// lowest and highest are the configurations that may be, each of whose numbers is its least one, and its greatest one.
func lowest() api.Config {
	return api.Config{Nodes: 1, Chain: 1, Clients: 1, Quanta: []int{96}, Queue: 1, Window: 1, Reads: 1, Link: 4, Patience: 4, Timeout: 4, Budget: 0, Refill: 1}
}

func highest() api.Config {
	return api.Config{Nodes: 6, Chain: 6, Clients: 6, Quanta: []int{65536, 65536, 65536, 65536}, Queue: 16, Window: 16, Reads: 16, Link: 64, Patience: 64, Timeout: 64, Budget: 16, Refill: tick}
}

// taken is configurations that may be.
func taken() []api.Config {
	return []api.Config{ordinary(), lowest(), highest()}
}

// number is one of a configuration's, and the least and the greatest that it may be, whatever the others are.
type number struct {
	name   string
	at     func(c *api.Config) *int
	lo, hi int
}

// numbers is those that have bounds of their own: all but Chain and the Quanta.
func numbers() []number {
	return []number{
		{"Nodes", func(c *api.Config) *int { return &c.Nodes }, 1, 6},
		{"Clients", func(c *api.Config) *int { return &c.Clients }, 1, 6},
		{"Queue", func(c *api.Config) *int { return &c.Queue }, 1, 16},
		{"Window", func(c *api.Config) *int { return &c.Window }, 1, 16},
		{"Reads", func(c *api.Config) *int { return &c.Reads }, 1, 16},
		{"Link", func(c *api.Config) *int { return &c.Link }, 4, 64},
		{"Patience", func(c *api.Config) *int { return &c.Patience }, 4, 64},
		{"Timeout", func(c *api.Config) *int { return &c.Timeout }, 4, 64},
		{"Budget", func(c *api.Config) *int { return &c.Budget }, 0, 16},
		{"Refill", func(c *api.Config) *int { return &c.Refill }, 1, 1099511627776},
	}
}

// all is the numbers, and Chain, whose greatest one is Nodes, and a configuration's quanta.
func all(c api.Config) []number {
	l := append(numbers(), number{"Chain", func(c *api.Config) *int { return &c.Chain }, 1, c.Nodes})
	for i := range c.Quanta {
		l = append(l, number{"Quanta", func(c *api.Config) *int { return &c.Quanta[i] }, 96, 65536})
	}
	return l
}

// around is the values at a number's edges, and far from them, the ones that wrap round to some that may be among them.
func around(lo, hi int) []int {
	return []int{lo - 1, lo, lo + 1, hi - 1, hi, hi + 1, math.MinInt, math.MinInt + 1, math.MaxInt - 1, math.MaxInt, -1, 0, 1, 1<<31 - 1, 1 << 31, 1<<32 + lo, 1<<32 + hi, -(1 << 32) + lo, tick - 1, tick, tick + 1, tick + lo, -tick, -lo, -hi, -hi - 1}
}

// own is the same configuration with quanta in another place of the memory.
func own(c api.Config) api.Config {
	c.Quanta = slices.Clone(c.Quanta)
	return c
}

// with is the configuration with one of its numbers made another one.
func with(c api.Config, x number, value int) api.Config {
	c = own(c)
	*x.at(&c) = value
	return c
}

// quanta is the configuration with these ones.
func quanta(c api.Config, l ...int) api.Config {
	c.Quanta = l
	return c
}

// same tells whether two configurations have the same, none and nil quanta being one.
func same(a, b api.Config) bool {
	for _, x := range numbers() {
		if *x.at(&a) != *x.at(&b) {
			return false
		}
	}
	return a.Chain == b.Chain && slices.Equal(a.Quanta, b.Quanta)
}

// outside tells whether a number is not within its bounds.
func outside(n, lo, hi int) bool { return n < lo || n > hi }

// wrong tells whether the chapter refuses a configuration.
func wrong(c api.Config) bool {
	for _, x := range numbers() {
		if outside(*x.at(&c), x.lo, x.hi) {
			return true
		}
	}
	for _, q := range c.Quanta {
		if outside(q, 96, 65536) {
			return true
		}
	}
	return outside(c.Chain, 1, c.Nodes) || outside(len(c.Quanta), 1, 4)
}

// brought is the number of those that may be that is the nearest one.
func brought(n, lo, hi int) int {
	if n < lo {
		return lo
	}
	if n > hi {
		return hi
	}
	return n
}

// fitted is what the chapter makes of a configuration.
func fitted(c api.Config) api.Config {
	c = own(c)
	for _, x := range numbers() {
		*x.at(&c) = brought(*x.at(&c), x.lo, x.hi)
	}
	c.Chain = brought(c.Chain, 1, c.Nodes)
	var l []int
	for i, q := range c.Quanta {
		if i < 4 {
			l = append(l, brought(q, 96, 65536))
		}
	}
	if len(l) == 0 {
		l = append(l, 96)
	}
	c.Quanta = l
	return c
}

// sameChain tells whether two chains have the same, none and nil members being one.
func sameChain(a, b api.Chain) bool {
	return a.Epoch == b.Epoch && a.Drain == b.Drain && slices.Equal(a.Members, b.Members)
}

// first is the chain of the first nodes, so many of them.
func first(size int) api.Chain {
	nodes := []api.Member{{Node: 0, Since: 1}, {Node: 1, Since: 1}, {Node: 2, Since: 1}, {Node: 3, Since: 1}, {Node: 4, Since: 1}, {Node: 5, Since: 1}}
	return api.Chain{Epoch: 1, Members: nodes[:size], Drain: -1}
}

// picker picks numbers, always the same ones.
func picker() func(n int) int {
	number := uint32(1)
	return func(n int) int {
		number = number*1664525 + 1013904223
		return int(number>>8) % n
	}
}

// checkAll holds all that is told of a configuration against the chapter, and looks whether it stayed as it was, also behind its quanta.
func checkAll(t *testing.T, c api.Config) {
	t.Helper()
	was, memory := own(c), slices.Clone(c.Quanta[:cap(c.Quanta)])
	checkTaken(t, c, !wrong(c))
	checkFit(t, c, fitted(c))
	checkFirst(t, c)
	if !same(c, was) || !slices.Equal(c.Quanta[:cap(c.Quanta)], memory) {
		t.Fatalf("%.300v: what was handed in is %.300v", was, c)
	}
}

// checkTaken holds Check of a configuration against whether it may be.
func checkTaken(t *testing.T, c api.Config, may bool) {
	t.Helper()
	want := api.OK
	if !may {
		want = api.ErrArg
	}
	for range 2 {
		if e := setups.Check(c); e != want {
			t.Fatalf("Check(%.300v): %d, not %d", c, e, want)
		}
	}
}

// checkFit holds Fit of a configuration against what the chapter makes of it: P15.3 too.
func checkFit(t *testing.T, c, want api.Config) {
	t.Helper()
	d := setups.Fit(c)
	if !same(d, want) {
		t.Fatalf("Fit(%.300v) = %.300v, not %v", c, d, want)
	}
	checkTaken(t, d, true)
	if again := setups.Fit(d); !same(again, want) {
		t.Fatalf("Fit(%v) = %v: that was fit", d, again)
	}
	if again := setups.Fit(c); !same(again, want) {
		t.Fatalf("Fit(%.300v), again: %v, not %v", c, again, want)
	}
}

// checkFirst holds First of a configuration against the chapter: P15.3 too.
func checkFirst(t *testing.T, c api.Config) {
	t.Helper()
	want, wrongly := api.Chain{}, api.ErrArg
	if !wrong(c) {
		want, wrongly = first(c.Chain), api.OK
	}
	for range 2 {
		s, e := setups.First(c)
		if e != wrongly || !sameChain(s, want) {
			t.Fatalf("First(%.300v) = %v, %d, not %v, %d", c, s, e, want, wrongly)
		}
		if e == api.OK && chains.Check(s) != api.OK {
			t.Fatalf("First(%v) = %v, that chains.Check refuses", c, s)
		}
	}
}
