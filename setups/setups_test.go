package setups_test

import (
	"math"
	"slices"
	"testing"

	"fairway/api"
	"fairway/chains"
	"fairway/setups"
)

// The chapter's examples.
func TestExamples(t *testing.T) {
	z := setups.Fit(api.Config{})
	if a, b := setups.Check(api.Config{}), setups.Check(z); a != api.ErrArg || b != api.OK {
		t.Errorf("Check of zero, and of what is fit of it: %d, %d", a, b)
	}
	if z.Nodes != 1 || z.Chain != 1 || !slices.Equal(z.Quanta, []int{96}) || z.Link != 4 {
		t.Errorf("Fit of zero: %v", z)
	}
	s, e := setups.First(setups.Fit(api.Config{Nodes: 3, Chain: 2}))
	if e != api.OK || !slices.Equal(s.Members, []api.Member{{Node: 0, Since: 1}, {Node: 1, Since: 1}}) {
		t.Errorf("First: %v, %d", s, e)
	}
}

// P15.1: zero, and all numbers far below and far above what they may be.
func TestFitOfAllNumbersAtOnce(t *testing.T) {
	low, high := api.Config{Chain: math.MinInt}, api.Config{Chain: math.MaxInt}
	for _, x := range numbers() {
		*x.at(&low), *x.at(&high) = math.MinInt, math.MaxInt
	}
	low.Quanta = []int{math.MinInt}
	high.Quanta = []int{math.MaxInt, math.MaxInt, math.MaxInt, math.MaxInt, math.MaxInt}
	checkFit(t, api.Config{}, lowest())
	checkFit(t, low, lowest())
	checkFit(t, high, highest())
	for _, c := range []api.Config{{}, low, high} {
		checkTaken(t, c, false)
		checkAll(t, c)
	}
}

// P15.1 and P15.3: what may be is taken, and fits as it is.
func TestWhatMayBeFitsAsItIs(t *testing.T) {
	for _, c := range taken() {
		checkTaken(t, c, true)
		checkFit(t, c, c)
		checkAll(t, c)
	}
}

// P15.1: each number by itself, at its edges and far from them; Chain is such that Nodes may be whatever it may.
func TestEachNumberByItself(t *testing.T) {
	for _, base := range taken() {
		base.Chain = 1
		for _, x := range numbers() {
			for _, v := range around(x.lo, x.hi) {
				c := with(base, x, v)
				checkTaken(t, c, x.lo <= v && v <= x.hi)
				checkFit(t, c, with(base, x, min(max(v, x.lo), x.hi)))
				checkAll(t, c)
			}
			for v := range 70 {
				checkAll(t, with(base, x, v-2))
			}
		}
	}
}

// P15.1: a number that may be is told as it is: by itself, and not as another one.
func TestEachNumberKeepsItsPlace(t *testing.T) {
	for _, x := range numbers() {
		for v := x.lo; v <= min(x.hi, 64); v++ {
			base := lowest()
			if d := setups.Fit(with(base, x, v)); *x.at(&d) != v || !same(with(d, x, *x.at(&base)), base) {
				t.Errorf("Fit with %s %d: %v", x.name, v, d)
			}
		}
	}
}

// P15.1: Chain's greatest one is Nodes.
func TestChainOfEachNumberOfNodes(t *testing.T) {
	for nodes := 1; nodes <= 6; nodes++ {
		for _, chain := range append(around(1, nodes), 2, 3, 4, 5, 6, 7, 8) {
			c := ordinary()
			c.Nodes, c.Chain = nodes, chain
			want := c
			want.Chain = min(max(chain, 1), nodes)
			checkTaken(t, c, 1 <= chain && chain <= nodes)
			checkFit(t, c, want)
			checkAll(t, c)
		}
	}
}

// P15.1: a Chain is held against the Nodes that there are, but brought within what Nodes are brought to.
func TestChainOfNodesThatAreBroughtWithin(t *testing.T) {
	for _, x := range []struct{ nodes, chain, wantNodes, wantChain int }{
		{7, 7, 6, 6}, {7, 6, 6, 6}, {7, 5, 6, 5}, {7, 1, 6, 1}, {7, 0, 6, 1}, {7, 8, 6, 6}, {99, 50, 6, 6}, {99, 99, 6, 6}, {99, 2, 6, 2}, {9, -1, 6, 1},
		{0, 0, 1, 1}, {0, 1, 1, 1}, {0, 2, 1, 1}, {0, -1, 1, 1}, {-5, -5, 1, 1}, {-5, 3, 1, 1}, {-5, -9, 1, 1}, {0, 6, 1, 1}, {-1, 1, 1, 1},
		{math.MaxInt, math.MaxInt, 6, 6}, {math.MaxInt, math.MinInt, 6, 1}, {math.MaxInt, 4, 6, 4}, {math.MinInt, math.MaxInt, 1, 1}, {math.MinInt, math.MinInt, 1, 1}, {math.MinInt, 4, 1, 1},
	} {
		c := ordinary()
		c.Nodes, c.Chain = x.nodes, x.chain
		want := ordinary()
		want.Nodes, want.Chain = x.wantNodes, x.wantChain
		checkTaken(t, c, false)
		checkFit(t, c, want)
	}
	values := append(around(1, 6), 2, 3, 4, 5, 8, 9)
	for _, nodes := range values {
		for _, chain := range values {
			c := ordinary()
			c.Nodes, c.Chain = nodes, chain
			checkAll(t, c)
		}
	}
}

// P15.1: each two numbers at once, each at its edges and far from them.
func TestEachTwoNumbers(t *testing.T) {
	for _, base := range taken() {
		l := all(base)
		for i, x := range l {
			for _, y := range l[:i] {
				for _, v := range []int{x.lo - 1, x.lo, x.hi, x.hi + 1, math.MinInt, math.MaxInt} {
					for _, w := range []int{y.lo - 1, y.lo, y.hi, y.hi + 1, math.MinInt, math.MaxInt} {
						checkAll(t, with(with(base, x, v), y, w))
					}
				}
			}
			for _, l := range [][]int{nil, {}, {95}, {65537}, {96, 95}, {96, 96, 96, 96, 96}} {
				checkAll(t, quanta(with(base, x, x.lo-1), l...))
				checkAll(t, quanta(with(base, x, x.hi+1), l...))
			}
		}
	}
}

// P15.2: each number of Nodes with each Chain.
func TestFirst(t *testing.T) {
	for nodes := 1; nodes <= 6; nodes++ {
		for chain := 1; chain <= nodes; chain++ {
			c := ordinary()
			c.Nodes, c.Chain = nodes, chain
			s, e := setups.First(c)
			if e != api.OK || s.Epoch != 1 || s.Drain != -1 || len(s.Members) != chain {
				t.Fatalf("First of %d nodes, %d of which are the chain: %v, %d", nodes, chain, s, e)
			}
			for i, m := range s.Members {
				if m.Node != i || m.Since != 1 {
					t.Errorf("First of %d nodes, %d of which are the chain: the member %d is %v", nodes, chain, i, m)
				}
			}
			if e := chains.Check(s); e != api.OK {
				t.Errorf("chains.Check(%v): %d", s, e)
			}
			if a, b := chains.Head(s), chains.Tail(s); a != 0 || b != chain-1 {
				t.Errorf("Head and Tail of %v: %d, %d", s, a, b)
			}
		}
	}
}

// P15.2: the first chain is the same whatever the other numbers are.
func TestFirstIsOfChainAlone(t *testing.T) {
	for _, base := range []api.Config{ordinary(), highest()} {
		for _, x := range numbers() {
			for _, v := range []int{x.lo, x.hi} {
				c := with(base, x, v)
				// So few nodes are no chain of that many.
				if c.Nodes < c.Chain {
					continue
				}
				if s, e := setups.First(c); e != api.OK || !sameChain(s, first(base.Chain)) {
					t.Errorf("First(%v) = %v, %d", c, s, e)
				}
			}
		}
	}
}

// P15.2: of what may not be, by each number and by the quanta: no chain.
func TestFirstOfWhatMayNotBe(t *testing.T) {
	l := []api.Config{{}, {Nodes: 3, Chain: 2}}
	for _, base := range taken() {
		for _, x := range all(base) {
			for _, v := range []int{x.lo - 1, x.hi + 1, math.MinInt, math.MaxInt} {
				l = append(l, with(base, x, v))
			}
		}
		l = append(l, quanta(base), quanta(base, []int{}...), quanta(base, 96, 96, 96, 96, 96), quanta(base, make([]int, 1<<16)...))
	}
	for _, c := range l {
		if s, e := setups.First(c); e != api.ErrArg || !sameChain(s, api.Chain{}) {
			t.Errorf("First(%.300v) = %v, %d", c, s, e)
		}
		checkAll(t, c)
	}
}

// P15.2 and the rule R4: members that were told are the caller's own.
func TestMembersAreTheCallersOwn(t *testing.T) {
	for size := 1; size <= 6; size++ {
		c := highest()
		c.Chain = size
		one, _ := setups.First(c)
		other, _ := setups.First(c)
		spoil := one.Members[:cap(one.Members)]
		for i := range spoil {
			spoil[i] = api.Member{Node: 99, Since: 99}
		}
		if !sameChain(other, first(size)) {
			t.Errorf("First of %d, told ahead: %v", size, other)
		}
		if next, e := setups.First(c); e != api.OK || !sameChain(next, first(size)) {
			t.Errorf("First of %d, told next: %v, %d", size, next, e)
		}
	}
}

// P15.3 and the rule R1: a long row of configurations, most of whose numbers are at edges.
func TestLongRowOfConfigurations(t *testing.T) {
	const rows = 100000
	pick := picker()
	may := 0
	for range rows {
		c := ordinary()
		for _, x := range append(numbers(), number{"Chain", func(c *api.Config) *int { return &c.Chain }, 1, 6}) {
			l := around(x.lo, x.hi)
			// Each tenth number is any, and all others are such as may be, so that some configurations may be.
			if pick(10) == 0 {
				*x.at(&c) = l[pick(len(l))]
			} else if pick(3) > 0 {
				*x.at(&c) = []int{x.lo, x.lo + 1, x.hi - 1, x.hi}[pick(4)]
			}
		}
		c.Quanta = pickQuanta(pick)
		checkAll(t, c)
		if !wrong(c) {
			may++
		}
	}
	if may < rows/100 || may > rows/2 {
		t.Errorf("%d of %d may be", may, rows)
	}
}

// pickQuanta is some, seldom more of them than may be, or others than may be.
func pickQuanta(pick func(n int) int) []int {
	size := 1 + pick(4)
	if pick(10) == 0 {
		size = pick(9)
	}
	// There is room behind them, in which there is something.
	l := slices.Repeat([]int{77}, size+pick(3))[:size]
	for i := range l {
		l[i] = 96 + pick(65536-96+1)
		if pick(20) == 0 {
			a := around(96, 65536)
			l[i] = a[pick(len(a))]
		}
	}
	return l
}
