package chains_test

import (
	"math"
	"testing"

	"fairway/api"
	"fairway/chains"
)

// checkTold makes a step of which the chain is told.
func checkTold(t *testing.T, name string, d api.Chain, e api.Errno, want api.Chain) {
	t.Helper()
	if e != api.OK || !same(d, want) {
		t.Errorf("%s: %v, %d, not %v", name, d, e, want)
	}
}

// checkError makes a step that is refused.
func checkError(t *testing.T, name string, s step, c api.Chain, n int, want api.Errno) {
	t.Helper()
	was := own(c)
	if d, e := s(c, n); e != want || !zero(d) {
		t.Errorf("%s(%.200v, %d) = %v, %d, not the error %d", name, c, n, d, e, want)
	}
	if !same(was, c) {
		t.Errorf("%s(%.200v, %d): the chain ahead is %.200v", name, was, n, c)
	}
}

// P12.3: the chapter's examples.
func TestStepsOfTheExample(t *testing.T) {
	c := example()
	d, e := chains.With(c, 1)
	checkTold(t, "With 1", d, e, chain(4, -1, member(2, 1), member(0, 3), member(1, 4)))
	d, e = chains.Without(c, 2)
	checkTold(t, "Without 2", d, e, chain(4, -1, member(0, 3)))
	d, e = chains.Drain(c, 0)
	checkTold(t, "Drain 0", d, e, chain(4, 0, member(2, 1), member(0, 3)))
	checkError(t, "Drain 0, then Drain", chains.Drain, d, 2, api.ErrHave)
}

// P12.3: With: the new one stands last, with the new Epoch; all else stays, also the one that drains.
func TestWith(t *testing.T) {
	for _, x := range []struct {
		c    api.Chain
		n    int
		want api.Chain
	}{
		{of(1, -1, 0), 5, chain(2, -1, member(0, 1), member(5, 2))},
		{of(1, -1, 5), 0, chain(2, -1, member(5, 1), member(0, 2))},
		{of(1, 5, 5), 0, chain(2, 5, member(5, 1), member(0, 2))},
		{of(9, 2, 1, 2), 3, chain(10, 2, member(1, 1), member(2, 1), member(3, 10))},
		{of(9, -1, 0, 1, 2, 3, 4), 5, chain(10, -1, member(0, 1), member(1, 1), member(2, 1), member(3, 1), member(4, 1), member(5, 10))},
		{of(9, 0, 5, 1, 2, 3, 0), 4, chain(10, 0, member(5, 1), member(1, 1), member(2, 1), member(3, 1), member(0, 1), member(4, 10))},
		{of(most-1, -1, 0), 1, chain(most, -1, member(0, 1), member(1, most))},
		{chain(most-1, 0, member(0, most-1)), 1, chain(most, 0, member(0, most-1), member(1, most))},
		{chain(1<<32-1, -1, member(3, 7)), 4, chain(1<<32, -1, member(3, 7), member(4, 1<<32))},
	} {
		d, e := chains.With(x.c, x.n)
		checkTold(t, "With", d, e, x.want)
	}
}

// P12.3: Without: the first, a middle, the last one; the one that drains, or another one.
func TestWithout(t *testing.T) {
	c := chain(9, 4, member(2, 1), member(4, 5), member(0, 9))
	for _, x := range []struct {
		c    api.Chain
		n    int
		want api.Chain
	}{
		{c, 2, chain(10, 4, member(4, 5), member(0, 9))},
		{c, 4, chain(10, -1, member(2, 1), member(0, 9))},
		{c, 0, chain(10, 4, member(2, 1), member(4, 5))},
		{of(1, -1, 0, 1), 0, of(2, -1, 1)},
		{of(1, -1, 0, 1), 1, of(2, -1, 0)},
		{of(1, 0, 0, 1), 0, of(2, -1, 1)},
		{of(1, 0, 0, 1), 1, of(2, 0, 0)},
		{of(3, 5, 0, 1, 2, 3, 4, 5), 0, of(4, 5, 1, 2, 3, 4, 5)},
		{of(3, 5, 0, 1, 2, 3, 4, 5), 5, of(4, -1, 0, 1, 2, 3, 4)},
		{of(most-1, -1, 0, 1), 1, of(most, -1, 0)},
	} {
		d, e := chains.Without(x.c, x.n)
		checkTold(t, "Without", d, e, x.want)
	}
}

// P12.3: Drain: the first, a middle, the last one.
func TestDrain(t *testing.T) {
	c := chain(9, -1, member(2, 1), member(4, 5), member(0, 9))
	for _, n := range []int{2, 4, 0} {
		d, e := chains.Drain(c, n)
		checkTold(t, "Drain", d, e, chain(10, n, member(2, 1), member(4, 5), member(0, 9)))
	}
	d, e := chains.Drain(of(most-1, -1, 0, 5), 5)
	checkTold(t, "Drain", d, e, of(most, 5, 0, 5))
}

// P12.3: each reason for itself, and each two at once, in the chapter's order.
func TestStepsThatAreRefused(t *testing.T) {
	full := of(9, 2, 0, 1, 2, 3, 4, 5)
	for _, x := range []struct {
		c     api.Chain
		n     int
		wants [3]api.Errno // of With, Without and Drain
	}{
		// One reason.
		{of(9, -1, 0, 1), 2, [3]api.Errno{api.OK, api.ErrNone, api.ErrNone}},
		{of(9, -1, 0, 1), 1, [3]api.Errno{api.ErrHave, api.OK, api.OK}},
		{of(9, 0, 0, 1), 1, [3]api.Errno{api.ErrHave, api.OK, api.ErrHave}},
		{of(9, 0, 0, 1), 0, [3]api.Errno{api.ErrHave, api.OK, api.ErrHave}},
		{of(9, -1, 1), 1, [3]api.Errno{api.ErrHave, api.ErrLast, api.ErrLast}},
		{of(9, -1, 0, 1), 6, [3]api.Errno{api.ErrArg, api.ErrNone, api.ErrNone}},
		{of(9, -1, 0, 1), -1, [3]api.Errno{api.ErrArg, api.ErrNone, api.ErrNone}},
		{of(9, 1, 0, 1), -1, [3]api.Errno{api.ErrArg, api.ErrNone, api.ErrNone}},
		// No member, and the only one; no member, and one drains; the only one, and it drains; all of these.
		{of(9, -1, 1), 2, [3]api.Errno{api.OK, api.ErrNone, api.ErrNone}},
		{of(9, 0, 0, 1), 2, [3]api.Errno{api.OK, api.ErrNone, api.ErrNone}},
		{of(9, 1, 1), 1, [3]api.Errno{api.ErrHave, api.ErrLast, api.ErrLast}},
		{of(9, 1, 1), 2, [3]api.Errno{api.OK, api.ErrNone, api.ErrNone}},
		{of(9, 1, 1), -1, [3]api.Errno{api.ErrArg, api.ErrNone, api.ErrNone}},
		// A full chain.
		{full, -1, [3]api.Errno{api.ErrArg, api.ErrNone, api.ErrNone}},
		{full, 6, [3]api.Errno{api.ErrArg, api.ErrNone, api.ErrNone}},
		{full, 0, [3]api.Errno{api.ErrHave, api.OK, api.ErrHave}},
		{full, 5, [3]api.Errno{api.ErrHave, api.OK, api.ErrHave}},
		// The last epoch, for itself, and beside each other reason.
		{of(most, -1, 0, 1), 1, [3]api.Errno{api.ErrArg, api.ErrArg, api.ErrArg}},
		{of(most, -1, 0, 1), 2, [3]api.Errno{api.ErrArg, api.ErrArg, api.ErrArg}},
		{of(most, -1, 0, 1), -1, [3]api.Errno{api.ErrArg, api.ErrArg, api.ErrArg}},
		{of(most, 0, 0, 1), 1, [3]api.Errno{api.ErrArg, api.ErrArg, api.ErrArg}},
		{of(most, -1, 1), 1, [3]api.Errno{api.ErrArg, api.ErrArg, api.ErrArg}},
		{of(most, 1, 1), 1, [3]api.Errno{api.ErrArg, api.ErrArg, api.ErrArg}},
		{of(most, 1, 1), 2, [3]api.Errno{api.ErrArg, api.ErrArg, api.ErrArg}},
		// A chain that Check refuses, for itself, and beside each other reason.
		{of(9, 5, 0, 1), 2, [3]api.Errno{api.ErrArg, api.ErrArg, api.ErrArg}},
		{of(9, 5, 0, 1), 1, [3]api.Errno{api.ErrArg, api.ErrArg, api.ErrArg}},
		{of(9, 5, 1), 1, [3]api.Errno{api.ErrArg, api.ErrArg, api.ErrArg}},
		{of(9, 5, 1), 2, [3]api.Errno{api.ErrArg, api.ErrArg, api.ErrArg}},
		{of(9, -1, 6, 1), 6, [3]api.Errno{api.ErrArg, api.ErrArg, api.ErrArg}},
		{of(9, -1, -1, 1), -1, [3]api.Errno{api.ErrArg, api.ErrArg, api.ErrArg}},
		{of(9, -1, 1, 1), 1, [3]api.Errno{api.ErrArg, api.ErrArg, api.ErrArg}},
		{of(0, -1, 0, 1), 1, [3]api.Errno{api.ErrArg, api.ErrArg, api.ErrArg}},
		{of(most+1, -1, 0, 1), 1, [3]api.Errno{api.ErrArg, api.ErrArg, api.ErrArg}},
		{of(math.MaxInt, -1, 0, 1), 1, [3]api.Errno{api.ErrArg, api.ErrArg, api.ErrArg}},
		{of(math.MinInt, -1, 0, 1), 1, [3]api.Errno{api.ErrArg, api.ErrArg, api.ErrArg}},
		{of(-1, -1, 0, 1), 2, [3]api.Errno{api.ErrArg, api.ErrArg, api.ErrArg}},
		{api.Chain{}, 0, [3]api.Errno{api.ErrArg, api.ErrArg, api.ErrArg}},
		{chain(9, -1), 0, [3]api.Errno{api.ErrArg, api.ErrArg, api.ErrArg}},
		{chain(9, -1, []api.Member{}...), -1, [3]api.Errno{api.ErrArg, api.ErrArg, api.ErrArg}},
	} {
		for i, p := range pairs() {
			if x.wants[i] != api.OK {
				checkError(t, p.name, p.step, x.c, x.n, x.wants[i])
			} else if _, e := p.step(x.c, x.n); e != api.OK {
				t.Errorf("%s(%v, %d): %d", p.name, x.c, x.n, e)
			}
		}
	}
}

// P12.3 and the rule R1: each chain at the edges, each node, and numbers that are none's.
func TestStepsAtTheEdges(t *testing.T) {
	for _, c := range append(taken(), refused()...) {
		for _, p := range pairs() {
			for _, n := range anyNode() {
				checkStep(t, p, c, n)
			}
		}
	}
}

// spoil makes all members of a chain, and all that stands in memory behind them, other ones.
func spoil(c api.Chain) {
	all := c.Members[:cap(c.Members)]
	for i := range all {
		all[i] = member(-77, -77)
	}
}

// roomy is the chain, of members behind which there is room, that is filled.
func roomy(c api.Chain) api.Chain {
	l := make([]api.Member, 12)
	for i := range l {
		l[i] = member(77, 77)
	}
	c.Members = l[:copy(l, c.Members)]
	return c
}

// checkRoom looks whether what stands in memory behind the members of a roomy chain stayed as it was.
func checkRoom(t *testing.T, name string, c api.Chain) {
	t.Helper()
	for _, m := range c.Members[len(c.Members):cap(c.Members)] {
		if m != member(77, 77) {
			t.Fatalf("%s of %v: behind its members stands %v", name, c, m)
		}
	}
}

// P12.3 and the rule R4: the chain ahead and what was told share nothing, also where there is room behind the members.
func TestStepsShareNothing(t *testing.T) {
	for _, c := range append(taken(), refused()...) {
		if len(c.Members) > 10 {
			continue
		}
		for _, p := range pairs() {
			for n := -1; n <= 6; n++ {
				ahead := roomy(c)
				d := checkStep(t, p, ahead, n)
				checkRoom(t, p.name, ahead)
				other := checkStep(t, p, ahead, n)
				spoil(other)
				if want, _ := p.plain(c, n); !same(d, want) {
					t.Fatalf("%s(%v, %d): another answer was changed, and with it %v", p.name, c, n, d)
				}
				kept := own(d)
				spoil(ahead)
				if !same(d, kept) {
					t.Fatalf("%s(%v, %d): the chain ahead was changed, and with it %v", p.name, c, n, d)
				}
				ahead = roomy(c)
				d = checkStep(t, p, ahead, n)
				spoil(d)
				checkRoom(t, p.name, ahead)
				if !same(ahead, c) {
					t.Fatalf("%s(%v, %d): what was told was changed, and with it the chain ahead: %v", p.name, c, n, ahead)
				}
			}
		}
	}
}

// P12.3 and the rule R4: two chains that come of one share nothing with each other.
func TestTwoStepsOfOne(t *testing.T) {
	c := roomy(of(5, -1, 0, 1, 2))
	told := map[string]api.Chain{}
	told["With 4"], _ = chains.With(c, 4)
	told["With 5"], _ = chains.With(c, 5)
	told["Without 0"], _ = chains.Without(c, 0)
	told["Without 2"], _ = chains.Without(c, 2)
	told["Drain 0"], _ = chains.Drain(c, 0)
	told["Drain 1"], _ = chains.Drain(c, 1)
	wants := map[string]api.Chain{
		"With 4":    chain(6, -1, member(0, 1), member(1, 1), member(2, 1), member(4, 6)),
		"With 5":    chain(6, -1, member(0, 1), member(1, 1), member(2, 1), member(5, 6)),
		"Without 0": of(6, -1, 1, 2),
		"Without 2": of(6, -1, 0, 1),
		"Drain 0":   of(6, 0, 0, 1, 2),
		"Drain 1":   of(6, 1, 0, 1, 2),
	}
	for name := range wants {
		for other, want := range wants {
			if !same(told[other], want) {
				t.Fatalf("%s: %v, not %v", other, told[other], want)
			}
		}
		spoil(told[name])
		delete(told, name)
		delete(wants, name)
	}
	if !same(c, of(5, -1, 0, 1, 2)) {
		t.Errorf("the chain ahead is %v", c)
	}
	checkRoom(t, "steps", c)
}

// P12.5: a chain without what it was given is the one ahead, two epochs later.
func TestWithoutWhatItWasGiven(t *testing.T) {
	for _, c := range taken() {
		for n := range 6 {
			d, e := chains.With(c, n)
			if e != api.OK {
				continue
			}
			back, e := chains.Without(d, n)
			if c.Epoch == most-1 {
				if e != api.ErrArg || !zero(back) {
					t.Fatalf("%v with and without %d: %v, %d, and there is no such epoch", c, n, back, e)
				}
				continue
			}
			want := own(c)
			want.Epoch += 2
			if e != api.OK || !same(back, want) || !chains.Same(back, want) {
				t.Fatalf("%v with and without %d: %v, %d", c, n, back, e)
			}
		}
	}
}

// P12.5: what was drained and goes leaves a chain as one that goes by itself, an epoch later.
func TestDrainThenWithout(t *testing.T) {
	for _, c := range taken() {
		for n := range 6 {
			d, e := chains.Drain(c, n)
			if e != api.OK || c.Epoch >= most-1 {
				continue
			}
			gone, e := chains.Without(d, n)
			want, _ := without(c, n)
			want.Epoch++
			if e != api.OK || !same(gone, want) {
				t.Fatalf("%v: %d drains and goes: %v, %d, not %v", c, n, gone, e, want)
			}
		}
	}
}
