package chains_test

import (
	"math"
	"testing"

	"fairway/api"
	"fairway/chains"
)

// example is the chapter's.
func example() api.Chain {
	return chain(3, -1, member(2, 1), member(0, 3))
}

// taken is chains that may be, at the edges of all that they have.
func taken() []api.Chain {
	l := []api.Chain{
		example(),
		of(1, -1, 0), of(1, 0, 0), of(1, -1, 5), of(1, 5, 5), of(7, -1, 3), of(7, 3, 3),
		of(most, -1, 0), of(most, 5, 5), chain(most, -1, member(4, most)), chain(most, 4, member(4, most-1)),
		of(most-1, -1, 0, 1), chain(most-1, 1, member(0, most-1), member(1, 1)),
		of(1, -1, 5, 4, 3, 2, 1, 0), of(9, 0, 0, 1, 2, 3, 4, 5), of(9, 5, 0, 1, 2, 3, 4, 5), of(9, 3, 0, 1, 2, 3, 4, 5), of(most, 2, 2, 4, 0, 5, 1, 3),
		of(2, 1, 0, 1), of(2, 0, 0, 1), of(2, -1, 0, 1), of(2, -1, 1, 0), of(8, 5, 0, 5, 2), of(8, -1, 5, 0, 2, 4, 1),
		chain(4, -1, member(0, 4), member(1, 1), member(2, 3)), chain(4, 2, member(0, 1), member(1, 4), member(2, 4)),
		chain(1<<31, 3, member(3, 1<<31), member(1, 1<<31-1)), chain(1<<32+1, 0, member(0, 1<<32+1), member(5, 1<<32)),
		chain(300, -1, member(1, 246), member(2, 247), member(3, 248), member(4, 255), member(5, 256), member(0, 300)),
	}
	for _, epoch := range []int{245, 246, 247, 248, 254, 255, 256, 257, 65534, 65535, 65536, 1<<24 - 2, 1<<24 - 1, 1 << 24, 1<<32 - 2, 1<<32 - 1, 1 << 32, most - 2, most - 1, most} {
		l = append(l, chain(epoch, 1, member(1, epoch), member(0, epoch-1)))
	}
	return l
}

// refused is chains that may not be, most of them by one reason alone.
func refused() []api.Chain {
	one := of(3, -1, 1)
	l := []api.Chain{
		{}, {Drain: -1}, {Epoch: 3, Drain: -1}, {Epoch: 3, Members: []api.Member{}, Drain: -1}, {Epoch: 3}, {Members: []api.Member{{}}, Drain: -1},
		{Epoch: 3, Members: make([]api.Member, 0, 6), Drain: -1}, {Epoch: 3, Members: []api.Member{{}}, Drain: -1},
		// More members than may be, none of which is there twice, or that are all the same.
		of(3, -1, 0, 1, 2, 3, 4, 5, 6), of(3, -1, 0, 1, 2, 3, 4, 5, -1), of(3, -1, 0, 1, 2, 3, 4, 5, 0), of(3, -1, 0, 1, 2, 3, 4, 5, 5), of(3, -1, 0, 1, 2, 3, 4, 5, 6, 7, 8, 9), {Epoch: 3, Members: make([]api.Member, 1<<16), Drain: -1},
		// A node that is there twice: next to each other, apart, with another Since, and as the one that drains.
		of(3, -1, 1, 1), of(3, 1, 1, 1), of(3, -1, 0, 0), of(3, -1, 0, 1, 1), of(3, -1, 1, 1, 0), of(3, -1, 1, 0, 1), of(3, -1, 5, 0, 1, 2, 5), of(3, -1, 0, 1, 2, 3, 4, 0), of(3, -1, 0, 1, 2, 3, 4, 4), of(3, -1, 0, 1, 2, 2, 3, 4),
		of(3, -1, 1, 2, 1, 2), chain(3, -1, member(1, 1), member(1, 2)), chain(3, 1, member(1, 1), member(0, 2), member(1, 3)),
	}
	for _, epoch := range []int{0, -1, -2, -most, most + 1, most + 2, most * 2, 1 << 62, math.MaxInt, math.MinInt, math.MinInt + 1} {
		l = append(l, of(epoch, -1, 1), of(epoch, 1, 1, 2))
	}
	for _, n := range odd() {
		l = append(l, of(3, -1, n), of(3, -1, n, 1), of(3, -1, 0, 1, n), of(3, -1, 0, n, 2), of(3, n, n, 1), of(3, n, 0, 1, n))
		if n != -1 {
			l = append(l, of(3, n, 1), of(3, n, 0, 1, 2))
		}
	}
	for _, since := range []int{0, -1, -2, 4, 5, 1 << 32, 1<<32 + 3, most, most + 1, math.MaxInt, math.MinInt, math.MinInt + 3} {
		l = append(l, chain(3, -1, member(1, since)), chain(3, -1, member(0, 1), member(1, since)), chain(3, -1, member(1, since), member(0, 3)), chain(3, -1, member(0, 1), member(1, since), member(2, 1)))
	}
	for n := range 6 {
		if n != 1 {
			l = append(l, changed(one, func(c *api.Chain) { c.Drain = n }))
		}
	}
	return append(l, of(3, 5, 0, 1, 2, 3, 4), of(3, 0, 5, 4, 3, 2, 1), chain(most, -1, member(1, most+1)), chain(1, -1, member(1, 2)), chain(1, -1, member(1, 0)))
}

// P12.1: the edges: each chain that may be, each one that may not.
func TestCheck(t *testing.T) {
	for _, c := range taken() {
		if e := chains.Check(c); e != api.OK {
			t.Errorf("Check(%v): %d", c, e)
		}
	}
	for _, c := range refused() {
		if e := chains.Check(c); e != api.ErrArg {
			t.Errorf("Check(%.200v): %d, not ErrArg", c, e)
		}
	}
}

// P12.1: each field for itself, with each value from below the least to above the greatest that it may have.
func TestCheckOfEachField(t *testing.T) {
	values := []int{math.MinInt, math.MinInt + 1, -most, -7, -2, -1, 0, 1, 2, 3, 4, 5, 6, 7, 8, 9, most - 1, most, most + 1, math.MaxInt - 1, math.MaxInt}
	base := chain(7, 4, member(0, 1), member(4, 7), member(2, 3))
	for _, v := range values {
		checkAll(t, changed(base, func(c *api.Chain) { c.Epoch = v }))
		checkAll(t, changed(base, func(c *api.Chain) { c.Drain = v }))
		for i := range base.Members {
			checkAll(t, changed(base, func(c *api.Chain) { c.Members[i].Node = v }))
			checkAll(t, changed(base, func(c *api.Chain) { c.Members[i].Since = v }))
			checkAll(t, changed(base, func(c *api.Chain) { c.Members[i].Since, c.Epoch = v, v }))
			checkAll(t, changed(base, func(c *api.Chain) { c.Members[i].Node, c.Drain = v, v }))
		}
	}
}

// P12.2: the chapter's example.
func TestLooksOfTheExample(t *testing.T) {
	c := example()
	if a, b := chains.Head(c), chains.Tail(c); a != 2 || b != 0 {
		t.Errorf("Head and Tail: %d, %d", a, b)
	}
	if a, b := chains.Next(c, 2), chains.Next(c, 0); a != 0 || b != -1 {
		t.Errorf("Next: %d, %d", a, b)
	}
	if a, b := chains.Prev(c, 2), chains.Prev(c, 0); a != -1 || b != 2 {
		t.Errorf("Prev: %d, %d", a, b)
	}
	if s, ok := chains.Since(c, 2); s != 1 || !ok {
		t.Errorf("Since of 2: %d, %t", s, ok)
	}
	if s, ok := chains.Since(c, 0); s != 3 || !ok {
		t.Errorf("Since of 0: %d, %t", s, ok)
	}
}

// P12.2: the first, a middle, the last member, and the only one.
func TestNextAndPrev(t *testing.T) {
	c := of(9, 3, 4, 0, 3, 5)
	for i, n := range []int{4, 0, 3, 5} {
		prev, next := []int{-1, 4, 0, 3}[i], []int{0, 3, 5, -1}[i]
		if a, b := chains.Prev(c, n), chains.Next(c, n); a != prev || b != next {
			t.Errorf("Prev and Next of %d: %d, %d, not %d, %d", n, a, b, prev, next)
		}
	}
	if a, b := chains.Head(c), chains.Tail(c); a != 4 || b != 5 {
		t.Errorf("Head and Tail: %d, %d", a, b)
	}
	for n := range 6 {
		only := of(1, -1, n)
		if a, b, c, d := chains.Head(only), chains.Tail(only), chains.Prev(only, n), chains.Next(only, n); a != n || b != n || c != -1 || d != -1 {
			t.Errorf("of %v: Head %d, Tail %d, Prev %d, Next %d", only, a, b, c, d)
		}
	}
}

// P12.2: of a chain that Check refuses, also of its members, and of what is no member: -1, or 0 and false.
func TestLooksOfWhatIsNone(t *testing.T) {
	for _, c := range refused() {
		if a, b := chains.Head(c), chains.Tail(c); a != -1 || b != -1 {
			t.Fatalf("Head and Tail of %.200v: %d, %d", c, a, b)
		}
		for _, n := range anyNode() {
			checkNoMember(t, c, n)
		}
	}
	for _, c := range taken() {
		for _, n := range anyNode() {
			checkNode(t, c, n)
			if _, member := since(c, n); !member {
				checkNoMember(t, c, n)
			}
		}
	}
}

func checkNoMember(t *testing.T, c api.Chain, n int) {
	t.Helper()
	if a, b := chains.Prev(c, n), chains.Next(c, n); a != -1 || b != -1 {
		t.Fatalf("Prev and Next of %d in %.200v: %d, %d", n, c, a, b)
	}
	if s, ok := chains.Since(c, n); s != 0 || ok {
		t.Fatalf("Since of %d in %.200v: %d, %t", n, c, s, ok)
	}
}

// P12.1 and P12.2: all that is told at the edges; all stays as it was, and is told again (R2, R4).
func TestAllAtTheEdges(t *testing.T) {
	for _, c := range append(taken(), refused()...) {
		was := own(c)
		checkAll(t, c)
		checkAll(t, c)
		if !same(was, c) {
			t.Fatalf("%.200v was made %.200v", was, c)
		}
	}
}

// each tells all lists of up to so many of the members that are handed in.
func each(all []api.Member, size int, see func(l []api.Member)) {
	see(nil)
	lists := [][]api.Member{nil}
	for range size {
		var longer [][]api.Member
		for _, l := range lists {
			for _, m := range all {
				one := append(append([]api.Member{}, l...), m)
				longer = append(longer, one)
				see(one)
			}
		}
		lists = longer
	}
}

// crossed is all members of these nodes and epochs.
func crossed(nodes, since []int) []api.Member {
	var l []api.Member
	for _, n := range nodes {
		for _, s := range since {
			l = append(l, member(n, s))
		}
	}
	return l
}

// P12.1 to P12.4: all small chains, most of which may not be.
func TestAllSmallChains(t *testing.T) {
	may, all := 0, 0
	see := func(epochs, drains []int) func(l []api.Member) {
		return func(l []api.Member) {
			for _, epoch := range epochs {
				for _, drain := range drains {
					c := chain(epoch, drain, l...)
					checkAll(t, c)
					all++
					if !wrong(c) {
						may++
					}
				}
			}
		}
	}
	each(crossed([]int{-1, 0, 1, 5, 6}, []int{0, 1, 2, 3}), 2, see([]int{0, 1, 2, 3}, []int{-2, -1, 0, 1, 5, 6}))
	each(crossed([]int{0, 3, 5}, []int{1, 2, 3}), 3, see([]int{1, 2}, []int{-1, 0, 3, 4}))
	each(crossed([]int{0, 2, 4, 5}, []int{1}), 5, see([]int{1}, []int{-1, 2, 3}))
	if may == 0 || may == all {
		t.Errorf("%d of %d may be", may, all)
	}
}

// orders tells all rows of different nodes, of each length from 1 to 6.
func orders(ahead []int, see func(nodes []int)) {
	for n := range 6 {
		if there(ahead, n) {
			continue
		}
		l := append(append([]int{}, ahead...), n)
		see(l)
		orders(l, see)
	}
}

func there(l []int, n int) bool {
	for _, m := range l {
		if m == n {
			return true
		}
	}
	return false
}

// P12.1 to P12.5: each row of nodes, drained by each of them, or by none.
func TestAllRowsOfNodes(t *testing.T) {
	count := 0
	orders(nil, func(nodes []int) {
		count++
		for drain := -1; drain < 6; drain++ {
			c := chain(7, drain)
			for i, n := range nodes {
				c.Members = append(c.Members, member(n, 1+i*5%7))
			}
			checkAll(t, c)
			checkBack(t, c)
		}
	})
	if count != 1956 {
		t.Errorf("%d rows", count)
	}
}

// checkBack holds Next and Prev against each other, and goes through a chain from its head to its tail.
func checkBack(t *testing.T, c api.Chain) {
	t.Helper()
	if wrong(c) {
		return
	}
	at, count := chains.Head(c), 0
	for ; at != -1 && count < 7; count++ {
		next := chains.Next(c, at)
		if next == -1 && at != chains.Tail(c) {
			t.Fatalf("Next of %d in %v: -1, and it is not the tail", at, c)
		}
		if next != -1 && chains.Prev(c, next) != at {
			t.Fatalf("in %v: behind %d stands %d, ahead of that one %d", c, at, next, chains.Prev(c, next))
		}
		if prev := chains.Prev(c, at); prev != -1 && chains.Next(c, prev) != at {
			t.Fatalf("in %v: ahead of %d stands %d, behind that one %d", c, at, prev, chains.Next(c, prev))
		}
		at = next
	}
	if count != len(c.Members) {
		t.Fatalf("from the head of %v %d were met", c, count)
	}
}
