package slots_test

import (
	"runtime"
	"sync"
	"sync/atomic"
	"testing"

	"fairway/api"
	"fairway/slots"
)

// setters is how many goroutines set at once, and slotsOfAll how many slots they meet at, one behind the other.
const (
	setters    = 8
	slotsOfAll = 30000
)

// together lets so many goroutines begin at once, and waits for the end of all.
func together(n int, work func(n int)) {
	// On one processor they would go on one behind the other, and would hardly meet.
	defer runtime.GOMAXPROCS(runtime.GOMAXPROCS(n))
	var all sync.WaitGroup
	begin := make(chan struct{})
	for i := range n {
		all.Go(func() {
			<-begin
			work(i)
		})
	}
	close(begin)
	all.Wait()
}

// place is a slot at which goroutines meet.
type place struct {
	*slots.Slot
	here atomic.Int64
}

func places(t *testing.T) []place {
	t.Helper()
	l := make([]place, slotsOfAll)
	for i := range l {
		l[i].Slot = made(t)
	}
	return l
}

// meet waits for the others, so that all come to the slot at once; but not for long, as one of them may be held up.
func (p *place) meet() {
	p.here.Add(1)
	for range 5000 {
		if p.here.Load() >= setters {
			return
		}
	}
}

// own is the outcomes that goroutines set: each one its own.
func own() [setters]api.Outcome {
	var l [setters]api.Outcome
	for n := range l {
		l[n] = full(api.OuDone+n%3, 1000*n)
	}
	return l
}

// told is what a goroutine was told of a slot.
type told struct {
	first bool
	is    api.Outcome
	ok    bool
}

// checkTold holds what all were told of one slot against each other: one set it, and all see that one's outcome.
func checkTold(t *testing.T, s *slots.Slot, set [setters]api.Outcome, all []told) {
	t.Helper()
	winner := -1
	for n, x := range all {
		if !x.first {
			continue
		}
		if winner >= 0 {
			t.Fatalf("the goroutines %d and %d were told that they set it", winner, n)
		}
		winner = n
	}
	if winner < 0 {
		t.Fatal("nobody was told to have set it")
	}
	for n, x := range all {
		if !x.ok || x.is != set[winner] {
			t.Fatalf("%d set it; %d was told %v, %v", winner, n, x.is, x.ok)
		}
	}
	checkIs(t, s, set[winner])
}

// P8.1 and P8.4: several set at once. Who was not the first one finds the outcome there as soon as that is told.
func TestSeveralSetAtOnce(t *testing.T) {
	l, set := places(t), own()
	all := make([][]told, len(l))
	for i := range all {
		all[i] = make([]told, setters)
	}
	together(setters, func(n int) {
		for i := range l {
			s, x := &l[i], &all[i][n]
			s.meet()
			x.first = s.Set(set[n])
			x.is, x.ok = s.Get()
		}
	})
	for i := range l {
		checkTold(t, l[i].Slot, set, all[i])
	}
}

// Each sets again and again, also what may not be: still one is told true, and that once.
func TestSeveralSetOftenAtOnce(t *testing.T) {
	l, set := places(t), own()
	all := make([][]told, len(l))
	for i := range all {
		all[i] = make([]told, setters)
	}
	together(setters, func(n int) {
		for i := range l {
			s, x := &l[i], &all[i][n]
			s.meet()
			for range 5 {
				if s.Set(full(api.OuNone, n)) || s.Set(full(4, n)) {
					t.Error("what may not be was set")
					return
				}
				if s.Set(set[n]) {
					if x.first {
						t.Errorf("%d set it twice", n)
						return
					}
					x.first = true
				}
			}
			x.is, x.ok = s.Get()
		}
	})
	for i := range l {
		checkTold(t, l[i].Slot, set, all[i])
	}
}

// P8.2: who looks while others set sees nothing, or all of an outcome, and from then on ever that one.
func TestOthersLookWhileSeveralSet(t *testing.T) {
	l, set := places(t), own()
	together(setters, func(n int) {
		for i := range l {
			l[i].meet()
			if n < 2 {
				// Not at once, as the others are to look ahead of that, too.
				for range i % 50 {
					l[i].Get()
				}
				l[i].Set(set[n])
				continue
			}
			if !watch(t, l[i].Slot, set[0], set[1]) {
				return
			}
		}
	})
	for i := range l {
		if _, ok := l[i].Get(); !ok {
			t.Fatal("nothing was set")
		}
	}
}

// watch looks at a slot until it has an outcome, and a few times more: false, if it saw what may not be.
func watch(t *testing.T, s *slots.Slot, one, other api.Outcome) bool {
	var first api.Outcome
	seen := 0
	for round := 0; round < 1000 && seen < 5; round++ {
		o, ok := s.Get()
		if ok && (o != one && o != other || seen > 0 && o != first) || !ok && (seen > 0 || o != api.Outcome{}) {
			t.Errorf("Get: %v, %v, behind %v", o, ok, first)
			return false
		}
		if ok {
			first = o
			seen++
		}
	}
	return true
}

// Those that are refused while others look use nothing up.
func TestSeveralAreRefusedAtOnce(t *testing.T) {
	l := places(t)
	together(setters, func(n int) {
		for i := range l {
			s := &l[i]
			s.meet()
			refused := !s.Set(full(api.OuNone, n)) && !s.Set(full(4+n, n))
			if o, ok := s.Get(); !refused || ok || o != (api.Outcome{}) {
				t.Errorf("%v; Get: %v, %v", refused, o, ok)
				return
			}
		}
	})
	for i := range l {
		checkSet(t, l[i].Slot, full(api.OuDone, i), true)
		checkIs(t, l[i].Slot, full(api.OuDone, i))
	}
}

// P8.3: of one that is none all are told so, at once, too.
func TestSeveralSetOneThatIsNone(t *testing.T) {
	set := own()
	for name, s := range none() {
		together(setters, func(n int) {
			for range 1000 {
				first := s.Set(set[n])
				if o, ok := s.Get(); first || ok || o != (api.Outcome{}) {
					t.Errorf("%s: %v; Get: %v, %v", name, first, o, ok)
					return
				}
			}
		})
	}
}
