package slots_test

import (
	"math"
	"strconv"
	"strings"
	"testing"

	"fairway/api"
	"fairway/slots"
)

// full is an outcome of which each field tells which one it is.
func full(kind, n int) api.Outcome {
	return api.Outcome{Kind: kind, Reason: n + 1, Result: api.Result{Code: n + 2, Value: "value " + strconv.Itoa(n), Version: n + 3, At: n + 4}}
}

// ends is outcomes that may be set: as clients are told them, and with whatever else stands in them.
func ends() []api.Outcome {
	l := []api.Outcome{
		{Kind: api.OuDone, Result: api.Result{Code: api.ReOK, Value: "a", Version: 1, At: 1}},
		{Kind: api.OuDone, Result: api.Result{Code: api.ReMissing, At: 7}},
		{Kind: api.OuDone, Result: api.Result{Code: api.ReVersion, Version: 3, At: 9}},
		{Kind: api.OuRejected, Reason: api.RjExpired},
		{Kind: api.OuRejected, Reason: api.RjBad},
		{Kind: api.OuGaveUp},
	}
	for _, kind := range []int{1, 2, 3} {
		l = append(l,
			api.Outcome{Kind: kind},
			full(kind, 10*kind),
			full(kind, -1000),
			api.Outcome{Kind: kind, Reason: math.MaxInt},
			api.Outcome{Kind: kind, Reason: math.MinInt},
			api.Outcome{Kind: kind, Result: api.Result{Code: -1}},
			api.Outcome{Kind: kind, Result: api.Result{Value: strings.Repeat("\xff\x00", 500)}},
			api.Outcome{Kind: kind, Result: api.Result{Version: math.MinInt}},
			api.Outcome{Kind: kind, Result: api.Result{At: math.MaxInt}},
		)
	}
	return l
}

// others is outcomes that may not be set: their kind is none of the three.
func others() []api.Outcome {
	kinds := []int{0, 4, 5, 6, 7, -1, -2, -3, -4, math.MaxInt, math.MaxInt - 1, math.MinInt, math.MinInt + 1, math.MinInt + 2, math.MinInt + 3}
	for power := 3; power < 63; power++ {
		for near := -3; near <= 3; near++ {
			kinds = append(kinds, 1<<power+near, -1<<power+near)
		}
	}
	var l []api.Outcome
	for _, kind := range kinds {
		l = append(l, api.Outcome{Kind: kind}, full(kind, 1))
	}
	return l
}

// none is slots that are nil, or that New did not make, made anew.
func none() map[string]*slots.Slot {
	return map[string]*slots.Slot{"nil": nil, "zero": {}, "new": new(slots.Slot)}
}

func made(t *testing.T) *slots.Slot {
	t.Helper()
	s := slots.New()
	if s == nil {
		t.Fatal("New tells nil")
	}
	return s
}

// madeOf is a slot with that outcome.
func madeOf(t *testing.T, o api.Outcome) *slots.Slot {
	t.Helper()
	s := made(t)
	checkSet(t, s, o, true)
	return s
}

func checkSet(t *testing.T, s *slots.Slot, o api.Outcome, want bool) {
	t.Helper()
	if got := s.Set(o); got != want {
		t.Fatalf("Set(%v) = %v", o, got)
	}
}

func checkWithout(t *testing.T, s *slots.Slot) {
	t.Helper()
	for range 2 {
		if o, ok := s.Get(); ok || o != (api.Outcome{}) {
			t.Fatalf("Get of one without an outcome: %v, %v", o, ok)
		}
	}
}

func checkIs(t *testing.T, s *slots.Slot, want api.Outcome) {
	t.Helper()
	for range 2 {
		if o, ok := s.Get(); !ok || o != want {
			t.Fatalf("Get: %v, %v, not %v", o, ok, want)
		}
	}
}

// P8.1 and P8.2: a new slot has no outcome, also when others have one.
func TestNew(t *testing.T) {
	for _, o := range ends() {
		checkWithout(t, made(t))
		madeOf(t, o)
	}
	checkWithout(t, made(t))
}

// The chapter's examples.
func TestExamples(t *testing.T) {
	s := made(t)
	checkWithout(t, s)
	checkSet(t, s, api.Outcome{Kind: api.OuNone}, false)
	checkSet(t, s, api.Outcome{Kind: api.OuGaveUp}, true)
	checkSet(t, s, api.Outcome{Kind: api.OuDone}, false)
	checkIs(t, s, api.Outcome{Kind: api.OuGaveUp})
}

// P8.1: each of the three kinds is set, and no other one.
func TestSetOfEachKind(t *testing.T) {
	for _, x := range []struct {
		kind int
		want bool
	}{
		{0, false}, {1, true}, {2, true}, {3, true}, {4, false}, {-1, false}, {math.MaxInt, false}, {math.MinInt, false},
		{api.OuNone, false}, {api.OuDone, true}, {api.OuRejected, true}, {api.OuGaveUp, true},
	} {
		s, o := made(t), full(x.kind, 5)
		checkSet(t, s, o, x.want)
		if x.want {
			checkIs(t, s, o)
		} else {
			checkWithout(t, s)
		}
	}
}

// P8.1 and P8.2: all of an outcome is set, whatever stands in it beside its kind.
func TestSetAndGet(t *testing.T) {
	for _, o := range ends() {
		s := made(t)
		checkWithout(t, s)
		checkSet(t, s, o, true)
		checkIs(t, s, o)
	}
}

// P8.1 and P8.4: once there is one, none is set any more, whatever it is: not that one again either.
func TestSetTwice(t *testing.T) {
	for _, first := range ends() {
		s := madeOf(t, first)
		for _, second := range ends() {
			checkSet(t, s, second, false)
			checkIs(t, s, first)
			one := madeOf(t, first)
			checkSet(t, one, second, false)
			checkIs(t, one, first)
		}
		checkSet(t, s, first, false)
		checkIs(t, s, first)
	}
}

// P8.1: what may not be set leaves the place to what may.
func TestSetRefusesWhatMayNotBe(t *testing.T) {
	s := made(t)
	for _, o := range others() {
		checkSet(t, s, o, false)
		checkWithout(t, s)
		one := made(t)
		checkSet(t, one, o, false)
		checkSet(t, one, o, false)
		checkWithout(t, one)
		checkSet(t, one, full(api.OuRejected, 3), true)
		checkIs(t, one, full(api.OuRejected, 3))
	}
	checkSet(t, s, full(api.OuDone, 8), true)
	checkIs(t, s, full(api.OuDone, 8))
}

// P8.1 and P8.4: what may not be set comes behind one that was.
func TestSetRefusesWhatMayNotBeBehindOneThatWas(t *testing.T) {
	for _, first := range ends() {
		s := madeOf(t, first)
		for _, o := range others() {
			checkSet(t, s, o, false)
			checkIs(t, s, first)
		}
		checkSet(t, s, full(api.OuGaveUp, 3), false)
		checkIs(t, s, first)
	}
}

// P8.2: who looks sets nothing, however often.
func TestGetSetsNothing(t *testing.T) {
	for _, o := range ends() {
		s := made(t)
		for range 100 {
			checkWithout(t, s)
		}
		checkSet(t, s, o, true)
		for range 100 {
			checkIs(t, s, o)
		}
	}
}

// P8.4: very often, and ever other ones.
func TestWhatIsToldFirstIsToldForEver(t *testing.T) {
	for _, first := range ends() {
		s := madeOf(t, first)
		for n := range 2000 {
			checkSet(t, s, full(n%6-1, n), false)
			checkIs(t, s, first)
		}
	}
}

// Two slots know nothing of each other.
func TestSlotsAreApart(t *testing.T) {
	a, b, c := made(t), made(t), made(t)
	if a == b || a == c || b == c {
		t.Fatal("New tells one twice")
	}
	checkSet(t, a, full(api.OuDone, 1), true)
	checkWithout(t, b)
	checkSet(t, b, full(api.OuRejected, 2), true)
	checkIs(t, a, full(api.OuDone, 1))
	checkSet(t, a, full(api.OuGaveUp, 3), false)
	checkSet(t, b, full(api.OuDone, 1), false)
	checkIs(t, a, full(api.OuDone, 1))
	checkIs(t, b, full(api.OuRejected, 2))
	checkWithout(t, c)
	checkSet(t, c, full(api.OuDone, 1), true)
	checkIs(t, c, full(api.OuDone, 1))
}

// The rule R4: what was handed in, and what was told, may be changed.
func TestOutcomesAreTheCallersOwn(t *testing.T) {
	s, o := made(t), full(api.OuDone, 1)
	checkSet(t, s, o, true)
	if o != full(api.OuDone, 1) {
		t.Errorf("Set made it %v", o)
	}
	o.Kind, o.Reason, o.Result.Value = api.OuGaveUp, 77, "other"
	told, _ := s.Get()
	told.Kind, told.Result = 0, api.Result{}
	checkIs(t, s, full(api.OuDone, 1))
}

// P8.3: of a slot that is none; nothing that is asked makes one of it.
func TestSlotsThatAreNone(t *testing.T) {
	for name, s := range none() {
		for range 3 {
			for _, o := range append(ends(), others()...) {
				if s.Set(o) {
					t.Fatalf("%s: Set(%v) is true", name, o)
				}
				if got, ok := s.Get(); ok || got != (api.Outcome{}) {
					t.Fatalf("%s: Get: %v, %v", name, got, ok)
				}
			}
		}
	}
}

// P8.3: one that is none is asked ahead of all else, too.
func TestSlotsThatAreNoneAreLookedAtFirst(t *testing.T) {
	for _, s := range none() {
		checkWithout(t, s)
	}
	for _, o := range ends() {
		for _, s := range none() {
			checkSet(t, s, o, false)
			checkWithout(t, s)
		}
	}
}
