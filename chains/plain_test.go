package chains_test

import (
	"math"
	"slices"
	"strings"
	"testing"

	"fairway/api"
	"fairway/chains"
)

const most = 1 << 40 // the greatest Epoch

func chain(epoch, drain int, members ...api.Member) api.Chain {
	return api.Chain{Epoch: epoch, Members: members, Drain: drain}
}

// of is a chain of these nodes, each of which came in the first epoch.
func of(epoch, drain int, nodes ...int) api.Chain {
	c := chain(epoch, drain)
	for _, n := range nodes {
		c.Members = append(c.Members, member(n, 1))
	}
	return c
}

func member(node, since int) api.Member {
	return api.Member{Node: node, Since: since}
}

// own is the same chain with members in another place of the memory.
func own(c api.Chain) api.Chain {
	c.Members = slices.Clone(c.Members)
	return c
}

// changed is the chain with something in it made another one.
func changed(c api.Chain, change func(c *api.Chain)) api.Chain {
	c = own(c)
	change(&c)
	return c
}

// same tells whether two chains have the same, none and nil members being one.
func same(a, b api.Chain) bool {
	if a.Epoch != b.Epoch || a.Drain != b.Drain || len(a.Members) != len(b.Members) {
		return false
	}
	for i := range a.Members {
		if a.Members[i].Node != b.Members[i].Node || a.Members[i].Since != b.Members[i].Since {
			return false
		}
	}
	return true
}

// zero tells whether a chain is the one that is told beside an error.
func zero(c api.Chain) bool {
	return same(c, api.Chain{})
}

// odd is numbers that are no node's.
func odd() []int {
	return []int{-1, -2, -3, -6, -7, 6, 7, 8, 12, 16, 32, 255, 256, 261, 1 << 16, 1<<31 - 1, 1 << 31, 1 << 32, 1<<32 + 2, 1<<32 + 5, most - 1, most, most + 1, 1 << 62, math.MaxInt - 1, math.MaxInt, math.MinInt, math.MinInt + 1, math.MinInt + 2}
}

// anyNode is each node's number, and those that are none's.
func anyNode() []int {
	return append([]int{0, 1, 2, 3, 4, 5}, odd()...)
}

// wrong tells whether the chapter refuses a chain.
func wrong(c api.Chain) bool {
	if c.Epoch <= 0 || c.Epoch > 1099511627776 || len(c.Members) == 0 || len(c.Members) > 6 {
		return true
	}
	drain := c.Drain == -1
	times := map[int]int{}
	for _, m := range c.Members {
		times[m.Node]++
		if m.Node < 0 || m.Node > 5 || times[m.Node] == 2 || m.Since <= 0 || m.Since > c.Epoch {
			return true
		}
		drain = drain || m.Node == c.Drain
	}
	return !drain
}

// nodes is the nodes of a chain, in order; none of one that the chapter refuses.
func nodes(c api.Chain) []int {
	var l []int
	if wrong(c) {
		return l
	}
	for _, m := range c.Members {
		l = append(l, m.Node)
	}
	return l
}

// beside is the nodes ahead of and behind one; -1, if there is none.
func beside(c api.Chain, n int) (prev, next int) {
	l := append(append([]int{-1}, nodes(c)...), -1)
	for i := 1; i < len(l)-1; i++ {
		if l[i] == n {
			return l[i-1], l[i+1]
		}
	}
	return -1, -1
}

// ends is the first node and the last one; -1, if there is none.
func ends(c api.Chain) (head, tail int) {
	l := nodes(c)
	if len(l) == 0 {
		return -1, -1
	}
	return l[0], l[len(l)-1]
}

func since(c api.Chain, n int) (int, bool) {
	if wrong(c) {
		return 0, false
	}
	for _, m := range c.Members {
		if m.Node == n {
			return m.Since, true
		}
	}
	return 0, false
}

// step is With, Without or Drain.
type step func(api.Chain, int) (api.Chain, api.Errno)

func with(c api.Chain, n int) (api.Chain, api.Errno) {
	switch {
	case wrong(c), c.Epoch == most, n < 0, n > 5:
		return api.Chain{}, api.ErrArg
	case slices.Contains(nodes(c), n):
		return api.Chain{}, api.ErrHave
	}
	var l []api.Member
	l = append(append(l, c.Members...), member(n, c.Epoch+1))
	return chain(c.Epoch+1, c.Drain, l...), api.OK
}

func without(c api.Chain, n int) (api.Chain, api.Errno) {
	switch {
	case wrong(c), c.Epoch == most:
		return api.Chain{}, api.ErrArg
	case !slices.Contains(nodes(c), n):
		return api.Chain{}, api.ErrNone
	case len(c.Members) == 1:
		return api.Chain{}, api.ErrLast
	}
	d := chain(c.Epoch+1, c.Drain)
	for _, m := range c.Members {
		if m.Node != n {
			d.Members = append(d.Members, m)
		}
	}
	if c.Drain == n {
		d.Drain = -1
	}
	return d, api.OK
}

func drain(c api.Chain, n int) (api.Chain, api.Errno) {
	switch {
	case wrong(c), c.Epoch == most:
		return api.Chain{}, api.ErrArg
	case !slices.Contains(nodes(c), n):
		return api.Chain{}, api.ErrNone
	case len(c.Members) == 1:
		return api.Chain{}, api.ErrLast
	case c.Drain != -1:
		return api.Chain{}, api.ErrHave
	}
	var l []api.Member
	return chain(c.Epoch+1, n, append(l, c.Members...)...), api.OK
}

// pair is a step by its name, and what the chapter asks of it.
type pair struct {
	name        string
	step, plain step
}

func pairs() []pair {
	return []pair{{"With", chains.With, with}, {"Without", chains.Without, without}, {"Drain", chains.Drain, drain}}
}

// number is a number's bytes, as the document spells them.
func number(n uint64) string {
	if n < 248 {
		return string([]byte{byte(n)})
	}
	var b []byte
	for ; n > 0; n /= 256 {
		b = append([]byte{byte(n % 256)}, b...)
	}
	return string(append([]byte{byte(247 + len(b))}, b...))
}

// spelled is the bytes of these numbers, each one as one from -1 on is spelled.
func spelled(l ...int) string {
	var s strings.Builder
	for _, n := range l {
		s.WriteString(number(uint64(n) + 1))
	}
	return s.String()
}

// bytesOf is the bytes that the chapter asks for, also of a chain that may not be.
func bytesOf(c api.Chain) string {
	l := []int{c.Epoch, len(c.Members)}
	for _, m := range c.Members {
		l = append(l, m.Node, m.Since)
	}
	return spelled(append(l, c.Drain)...)
}

// numbers is the numbers of which bytes are made, each one as it is spelled; false, if they are made of none.
func numbers(s string) (l []uint64, ok bool) {
	for s != "" {
		size, n := 1, uint64(s[0])
		if s[0] >= 248 {
			size, n = int(s[0])-246, 0
			for _, b := range []byte(s[1:min(size, len(s))]) {
				n = n*256 + uint64(b)
			}
		}
		if size > len(s) || number(n) != s[:size] {
			return nil, false
		}
		l, s = append(l, n), s[size:]
	}
	return l, true
}

// chainOf is the chain that has these bytes; false, if none has them.
func chainOf(s string) (c api.Chain, ok bool) {
	l, ok := numbers(s)
	if !ok || len(l) < 5 || len(l)%2 == 0 || l[1] != uint64(len(l)-3)/2+1 {
		return api.Chain{}, false
	}
	for _, n := range l {
		if n > most+1 {
			return api.Chain{}, false
		}
	}
	c.Epoch, c.Drain = int(l[0])-1, int(l[len(l)-1])-1
	for i := 2; i < len(l)-1; i += 2 {
		c.Members = append(c.Members, member(int(l[i])-1, int(l[i+1])-1))
	}
	if wrong(c) {
		return api.Chain{}, false
	}
	return c, true
}

// picker picks numbers, always the same ones.
func picker() func(n int) int {
	number := uint32(1)
	return func(n int) int {
		number = number*1664525 + 1013904223
		return int(number>>8) % n
	}
}

// checkStep makes a step and holds it against the chapter, and looks whether the chain ahead stayed as it was.
func checkStep(t *testing.T, p pair, c api.Chain, n int) api.Chain {
	t.Helper()
	was := own(c)
	want, wrong := p.plain(was, n)
	d, e := p.step(c, n)
	if e != wrong || !same(d, want) {
		t.Fatalf("%s(%.200v, %d) = %v, %d, not %v, %d", p.name, c, n, d, e, want, wrong)
	}
	if !same(c, was) {
		t.Fatalf("%s(%.200v, %d): the chain ahead is %.200v", p.name, was, n, c)
	}
	return d
}

// checkAll holds all that is told of a chain against the chapter.
func checkAll(t *testing.T, c api.Chain) {
	t.Helper()
	checkLooks(t, c)
	checkBytes(t, c)
	for _, p := range pairs() {
		for n := -2; n <= 7; n++ {
			checkStep(t, p, c, n)
		}
	}
}

// checkLooks holds what is told of a chain's nodes against the chapter.
func checkLooks(t *testing.T, c api.Chain) {
	t.Helper()
	want := api.OK
	if wrong(c) {
		want = api.ErrArg
	}
	if e := chains.Check(c); e != want {
		t.Fatalf("Check(%.200v): %d, not %d", c, e, want)
	}
	head, tail := ends(c)
	if a, b := chains.Head(c), chains.Tail(c); a != head || b != tail {
		t.Fatalf("Head and Tail of %.200v: %d, %d, not %d, %d", c, a, b, head, tail)
	}
	for n := -2; n <= 7; n++ {
		checkNode(t, c, n)
	}
}

// checkNode holds what is told of a node against the chapter.
func checkNode(t *testing.T, c api.Chain, n int) {
	t.Helper()
	prev, next := beside(c, n)
	if a, b := chains.Prev(c, n), chains.Next(c, n); a != prev || b != next {
		t.Fatalf("Prev and Next of %d in %.200v: %d, %d, not %d, %d", n, c, a, b, prev, next)
	}
	s, member := since(c, n)
	if a, ok := chains.Since(c, n); a != s || ok != member {
		t.Fatalf("Since of %d in %.200v: %d, %t, not %d, %t", n, c, a, ok, s, member)
	}
}

// checkBytes holds what is put and got of a chain against the chapter.
func checkBytes(t *testing.T, c api.Chain) {
	t.Helper()
	s, e := chains.Put(c)
	if wrong(c) {
		if s != "" || e != api.ErrArg {
			t.Fatalf("Put(%.200v) = %.100q, %d, not ErrArg", c, s, e)
		}
		checkForm(t, bytesOf(c))
		return
	}
	if s != bytesOf(c) || e != api.OK {
		t.Fatalf("Put(%v) = %q, %d, not %q", c, s, e, bytesOf(c))
	}
	if d, e := chains.Get(s); e != api.OK || !same(c, d) {
		t.Fatalf("Get(%q) = %v, %d, not %v", s, d, e, c)
	}
}

// checkForm gets what is no chain's bytes.
func checkForm(t *testing.T, s string) {
	t.Helper()
	if c, e := chains.Get(s); e != api.ErrForm || !zero(c) {
		t.Fatalf("Get(%.100q) = %v, %d: these are no chain's bytes", s, c, e)
	}
}

// checkGet gets any bytes: the chain that has them, or none.
func checkGet(t *testing.T, s string) (ok bool) {
	t.Helper()
	want, ok := chainOf(s)
	if !ok {
		checkForm(t, s)
		return false
	}
	c, e := chains.Get(s)
	if e != api.OK || !same(c, want) {
		t.Fatalf("Get(%q) = %v, %d, not %v", s, c, e, want)
	}
	if again, e := chains.Put(c); e != api.OK || again != s {
		t.Fatalf("Put(%v) = %q, %d, not %q, of which it was got", c, again, e, s)
	}
	return true
}
