package slots_test

import (
	"testing"

	"fairway/api"
)

// plain is what the chapter asks for of a slot: those that may be, in the order in which they came.
type plain []api.Outcome

func (p *plain) set(o api.Outcome) bool {
	if o.Kind != 1 && o.Kind != 2 && o.Kind != 3 {
		return false
	}
	*p = append(*p, o)
	return len(*p) == 1
}

func (p *plain) get() (api.Outcome, bool) {
	for _, o := range *p {
		return o, true
	}
	return api.Outcome{}, false
}

// look is the step in which nothing is set.
const look = -100

// kinds is the steps of rows: outcomes of these kinds are set.
func kinds() []int {
	return []int{look, -1, 0, 1, 2, 3, 4}
}

// checkRow takes a slot through steps, each with an outcome of its own, and looks in looks alone, and at the end.
func checkRow(t *testing.T, row []int) {
	t.Helper()
	s, p := made(t), &plain{}
	for n, kind := range row {
		if kind != look {
			o := full(kind, n)
			if got, want := s.Set(o), p.set(o); got != want {
				t.Fatalf("%v, step %d: Set = %v", row, n, got)
			}
			continue
		}
		got, ok := s.Get()
		if want, wanted := p.get(); got != want || ok != wanted {
			t.Fatalf("%v, step %d: Get: %v, %v", row, n, got, ok)
		}
	}
	got, ok := s.Get()
	if want, wanted := p.get(); got != want || ok != wanted {
		t.Fatalf("%v: Get: %v, %v, not %v, %v", row, got, ok, want, wanted)
	}
}

// rows goes through all rows of up to so many steps more.
func rows(row []int, more int, see func([]int)) {
	see(row)
	if more == 0 {
		return
	}
	for _, kind := range kinds() {
		rows(append(row, kind), more-1, see)
	}
}

// P8.1, P8.2 and P8.4: all rows of up to five steps.
func TestAllShortRows(t *testing.T) {
	rows(nil, 5, func(row []int) { checkRow(t, row) })
}

// picker picks numbers, always the same ones.
func picker() func(n int) int {
	number := uint32(1)
	return func(n int) int {
		number = number*1664525 + 1013904223
		return int(number>>8) % n
	}
}

// P8.4: long rows, of which some set what may be only late.
func TestLongRows(t *testing.T) {
	pick := picker()
	for range 300 {
		var row []int
		for range pick(200) {
			row = append(row, []int{look, 0, 4, 5, -2}[pick(5)])
		}
		for range pick(400) {
			row = append(row, kinds()[pick(len(kinds()))])
		}
		checkRow(t, row)
	}
}

// The rule R2: what was asked ahead decides alone, whatever is asked of others, or only looked at, between.
func TestTheSameStepsAreAnsweredTheSame(t *testing.T) {
	rows(nil, 3, func(row []int) {
		a, b, other := made(t), made(t), made(t)
		for n, kind := range row {
			o := full(kind, n)
			first := a.Set(o)
			other.Set(full(n%4, 50))
			a.Get()
			if second := b.Set(o); first != second {
				t.Fatalf("%v, step %d: Set = %v, and %v", row, n, first, second)
			}
		}
		first, ok := a.Get()
		if second, is := b.Get(); first != second || ok != is {
			t.Fatalf("%v: Get: %v, %v, and %v, %v", row, first, ok, second, is)
		}
	})
}
