package chains_test

import (
	"testing"

	"fairway/api"
	"fairway/chains"
)

// P12.3 and P12.5: all short rows of steps, from chains of each length.
func TestAllShortRowsOfSteps(t *testing.T) {
	var walk func(c api.Chain, left int)
	walk = func(c api.Chain, left int) {
		if left == 0 {
			return
		}
		for _, p := range pairs() {
			for _, n := range []int{-1, 0, 1, 2, 5, 6} {
				d := checkStep(t, p, c, n)
				if zero(d) {
					continue
				}
				checkLooks(t, d)
				checkBytes(t, d)
				checkBack(t, d)
				walk(d, left-1)
			}
		}
	}
	for _, c := range []api.Chain{of(1, -1, 0), of(1, -1, 2, 1), of(4, 5, 0, 5, 1), of(9, -1, 3, 5, 4, 0, 2), of(most-2, -1, 0, 1, 2, 3)} {
		walk(c, 4)
	}
}

// rowOf makes so many steps, and tells each chain that came of them, and how often each step was made.
func rowOf(t *testing.T, from api.Chain, steps int) (l []api.Chain, made [3]int) {
	t.Helper()
	pick := picker()
	c := from
	for range steps {
		i, n := pick(3), pick(8)-1
		d := checkStep(t, pairs()[i], c, n)
		if zero(d) {
			continue
		}
		made[i]++
		checkLooks(t, d)
		checkBytes(t, d)
		checkBack(t, d)
		l, c = append(l, d), d
	}
	return l, made
}

// P12.3 and the rules R2 and R4: a long row of steps: each chain that came stays as it was, and comes again when the same is asked.
func TestLongRowOfSteps(t *testing.T) {
	const steps = 30000
	l, made := rowOf(t, of(1, -1, 0, 1), steps)
	for i, count := range made {
		if count < steps/100 {
			t.Errorf("%s was made %d times", pairs()[i].name, count)
		}
	}
	again, _ := rowOf(t, of(1, -1, 0, 1), steps)
	if len(again) != len(l) {
		t.Fatalf("%d chains, and again %d", len(l), len(again))
	}
	lengths := map[int]int{}
	for i, c := range l {
		if !same(c, again[i]) || !chains.Same(c, again[i]) {
			t.Fatalf("the chain %d: %v, and again %v", i, c, again[i])
		}
		if c.Epoch != i+2 {
			t.Fatalf("the chain %d is of the epoch %d", i, c.Epoch)
		}
		lengths[len(c.Members)]++
	}
	for size := 1; size <= 6; size++ {
		if lengths[size] == 0 {
			t.Errorf("no chain had %d members", size)
		}
	}
}

// P12.3: the last epochs: behind the last one there is none.
func TestTheLastEpochs(t *testing.T) {
	l, _ := rowOf(t, of(most-20, -1, 0, 1, 2), 2000)
	if len(l) != 20 || l[19].Epoch != most {
		t.Fatalf("%d chains came", len(l))
	}
	for _, p := range pairs() {
		for n := -1; n <= 6; n++ {
			checkError(t, p.name, p.step, l[19], n, api.ErrArg)
		}
	}
}
