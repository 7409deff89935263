package rings_test

import (
	"math"
	"reflect"
	"slices"
	"testing"

	"fairway/api"
	"fairway/rings"
)

// plain is a frame that is known by its number.
func plain(n int) api.Frame {
	return api.Frame{Kind: api.FrCall, Seq: n}
}

// filled is a frame that has something in each field, another one for each number.
func filled(n int) api.Frame {
	op := api.Op{Kind: api.OpSwap, Key: "key", Value: "value", Version: n + 1}
	return api.Frame{
		Kind: api.FrConfig, Epoch: n + 2, Client: n + 3, Seq: n + 4, Try: n + 5, Class: n + 6, Deadline: n + 7,
		Op:     op,
		Result: api.Result{Code: api.ReOK, Value: "result", Version: n + 8, At: n + 9},
		Reason: api.RjFull,
		Entry:  api.Entry{Index: n + 10, Client: n + 11, Seq: n + 12, Op: op},
		Chain:  chain(n),
		Index:  n + 13, Grant: n + 14, Have: n + 15,
	}
}

func chain(n int) api.Chain {
	return api.Chain{Epoch: n + 16, Members: []api.Member{{Node: 0, Since: n + 1}, {Node: 5, Since: n + 2}, {Node: 3, Since: n + 3}}, Drain: -1}
}

// frames is those of the numbers from 0 on, with fields that are filled.
func frames(count int) []api.Frame {
	var l []api.Frame
	for n := range count {
		l = append(l, filled(n))
	}
	return l
}

// odd is numbers below and beyond all that a ring may have.
func odd() []int {
	return []int{-1, -2, -64, -65, math.MinInt, math.MinInt + 1, 65, 66, 128, 1 << 16, 1 << 31, 1 << 32, 1 << 40, 1 << 62, 1<<63 - 64, math.MaxInt - 1, math.MaxInt}
}

func made(t *testing.T, capacity int) *rings.Ring {
	t.Helper()
	r, e := rings.New(capacity)
	if e != api.OK || r == nil {
		t.Fatalf("New(%d) tells %v", capacity, e)
	}
	return r
}

// holding is a ring of that capacity, gone around by so many places, with those frames.
func holding(t *testing.T, capacity, around int, held []api.Frame) *rings.Ring {
	t.Helper()
	r := made(t, capacity)
	for n := range around {
		if !r.Push(filled(-n)) {
			t.Fatal("Push of an empty ring: false")
		}
		r.Pop()
	}
	for _, f := range held {
		if !r.Push(f) {
			t.Fatalf("Push of a ring with %d of %d: false", r.Len(), capacity)
		}
	}
	return r
}

func checkFrame(t *testing.T, name string, f api.Frame, ok bool, want api.Frame) {
	t.Helper()
	if !ok || !reflect.DeepEqual(f, want) {
		t.Fatalf("%s: %+v, %t, not %+v", name, f, ok, want)
	}
}

func checkNone(t *testing.T, name string, f api.Frame, ok bool) {
	t.Helper()
	if ok || !reflect.DeepEqual(f, api.Frame{}) {
		t.Fatalf("%s: %+v, %t, where there is none", name, f, ok)
	}
}

// checkHolds asks for all that a ring tells without being changed, and asks twice.
func checkHolds(t *testing.T, r *rings.Ring, capacity int, want []api.Frame) {
	t.Helper()
	for range 2 {
		if r.Len() != len(want) || r.Cap() != capacity {
			t.Fatalf("Len %d, Cap %d, not %d, %d", r.Len(), r.Cap(), len(want), capacity)
		}
		for i, f := range want {
			got, ok := r.At(i)
			checkFrame(t, "At", got, ok, f)
		}
		for _, i := range append(odd(), len(want), len(want)+1, capacity, capacity+1, len(want)+capacity) {
			if i < 0 || i >= len(want) {
				got, ok := r.At(i)
				checkNone(t, "At", got, ok)
			}
		}
		got, ok := r.Front()
		if len(want) == 0 {
			checkNone(t, "Front", got, ok)
		} else {
			checkFrame(t, "Front", got, ok, want[0])
		}
	}
}

// checkPops takes all out.
func checkPops(t *testing.T, r *rings.Ring, want []api.Frame) {
	t.Helper()
	for i, f := range want {
		got, ok := r.Pop()
		checkFrame(t, "Pop", got, ok, f)
		if r.Len() != len(want)-i-1 {
			t.Fatalf("Len %d behind Pop %d of %d", r.Len(), i, len(want))
		}
	}
	got, ok := r.Pop()
	checkNone(t, "Pop", got, ok)
	if r.Len() != 0 {
		t.Errorf("Len %d, where all were popped", r.Len())
	}
}

// none is rings that are nil, or that New did not make, made anew.
func none() map[string]*rings.Ring {
	refused, _ := rings.New(0)
	return map[string]*rings.Ring{"nil": nil, "zero": {}, "refused": refused}
}

// P3.1: all capacities near those that may be, and others far beyond.
func TestNewRefusesCapacitiesThatMayNotBe(t *testing.T) {
	for _, capacity := range append(odd(), 0) {
		if r, e := rings.New(capacity); r != nil || e != api.ErrArg {
			t.Errorf("New(%d) = %v, %v", capacity, r, e)
		}
	}
}

func TestNewMakesSoManyPlacesWithoutFrames(t *testing.T) {
	for capacity := 1; capacity <= 64; capacity++ {
		r := made(t, capacity)
		checkHolds(t, r, capacity, nil)
		checkPops(t, r, nil)
		checkHolds(t, r, capacity, nil)
	}
}

func TestRingsAreApart(t *testing.T) {
	a, b := made(t, 2), made(t, 2)
	a.Push(filled(1))
	checkHolds(t, b, 2, nil)
	b.Push(filled(2))
	checkHolds(t, a, 2, []api.Frame{filled(1)})
}

func TestLenAndCapAsPlacesAreFilledAndEmptied(t *testing.T) {
	for _, capacity := range []int{1, 2, 3, 63, 64} {
		r := made(t, capacity)
		for n := range capacity {
			r.Push(plain(n))
			if r.Len() != n+1 || r.Cap() != capacity {
				t.Errorf("capacity %d, %d pushed: Len %d, Cap %d", capacity, n+1, r.Len(), r.Cap())
			}
		}
		for n := range capacity {
			r.Pop()
			if r.Len() != capacity-n-1 || r.Cap() != capacity {
				t.Errorf("capacity %d, %d popped: Len %d, Cap %d", capacity, n+1, r.Len(), r.Cap())
			}
		}
	}
}

// The chapter says what of a ring that is none is told; nothing that is asked makes one of it.
func TestRingsThatAreNone(t *testing.T) {
	for name, r := range none() {
		for range 2 {
			if r.Push(filled(1)) || r.Push(api.Frame{}) {
				t.Errorf("%s: Push: true", name)
			}
			f, ok := r.Pop()
			checkNone(t, name+": Pop", f, ok)
			f, ok = r.Front()
			checkNone(t, name+": Front", f, ok)
			for _, i := range append(odd(), 0, 1) {
				f, ok = r.At(i)
				checkNone(t, name+": At", f, ok)
			}
			if r.Len() != 0 || r.Cap() != 0 {
				t.Errorf("%s: Len %d, Cap %d", name, r.Len(), r.Cap())
			}
			r.Clear()
			if c := r.Copy(); c != nil {
				t.Errorf("%s: Copy: %v", name, c)
			}
		}
	}
}

// P3.2: the chapter's example.
func TestExample(t *testing.T) {
	r := made(t, 2)
	a, b, c := filled(1), filled(2), filled(3)
	if !r.Push(a) || !r.Push(b) || r.Push(c) {
		t.Error("Push a, b, c: not true, true, false")
	}
	f, ok := r.Pop()
	checkFrame(t, "Pop", f, ok, a)
	if !r.Push(c) {
		t.Error("Push c: false")
	}
	checkHolds(t, r, 2, []api.Frame{b, c})
}

func TestPushOfAFullRingChangesNothing(t *testing.T) {
	for _, capacity := range []int{1, 2, 3, 64} {
		for _, around := range []int{0, 1, capacity - 1, capacity, 2*capacity + 1} {
			held := frames(capacity)
			r := holding(t, capacity, around, held)
			for range 3 {
				if r.Push(filled(1000)) {
					t.Errorf("capacity %d: Push of a full ring: true", capacity)
				}
				checkHolds(t, r, capacity, held)
			}
			checkPops(t, r, held)
		}
	}
}

func TestFramesAtEachBeginningOfThePlaces(t *testing.T) {
	for _, capacity := range []int{1, 2, 3, 5} {
		for around := range 2*capacity + 1 {
			for count := range capacity + 1 {
				held := frames(count)
				r := holding(t, capacity, around, held)
				checkHolds(t, r, capacity, held)
				checkPops(t, r, held)
				checkHolds(t, r, capacity, nil)
			}
		}
	}
}

func TestFrontAndPopTellTheSame(t *testing.T) {
	r := holding(t, 3, 2, frames(3))
	for n := range 3 {
		front, was := r.Front()
		popped, ok := r.Pop()
		checkFrame(t, "Front", front, was, filled(n))
		checkFrame(t, "Pop", popped, ok, filled(n))
	}
}

func TestPopOfAnEmptyRingLosesNothing(t *testing.T) {
	r := made(t, 2)
	for n := range 5 {
		checkPops(t, r, nil)
		r.Push(filled(n))
		checkHolds(t, r, 2, []api.Frame{filled(n)})
		checkPops(t, r, []api.Frame{filled(n)})
	}
}

// A frame may be any: one that has nothing in it is one, too.
func TestFramesOfAnyKind(t *testing.T) {
	held := []api.Frame{
		{}, {Kind: -1, Epoch: math.MinInt}, {Kind: math.MaxInt, Have: math.MaxInt}, {Chain: api.Chain{Drain: 7}},
		{Chain: api.Chain{Members: make([]api.Member, 1)}}, {Chain: api.Chain{Members: make([]api.Member, 1000)}},
		{Op: api.Op{Key: "\xff\x00"}}, filled(1), filled(1),
	}
	r := holding(t, len(held), 4, held)
	checkHolds(t, r, len(held), held)
	checkPops(t, r, held)
}

func TestListsWithoutMembers(t *testing.T) {
	for _, members := range [][]api.Member{nil, {}, make([]api.Member, 0, 8), chain(1).Members[:0]} {
		r := made(t, 1)
		r.Push(api.Frame{Seq: 1, Chain: api.Chain{Members: members}})
		for _, told := range tellings() {
			if f := told.tell(r); f.Seq != 1 || len(f.Chain.Members) != 0 {
				t.Errorf("%s: %+v", told.name, f)
			}
		}
	}
}

// telling is a way to be told the only frame of a ring.
type telling struct {
	name string
	tell func(r *rings.Ring) api.Frame
}

// tellings is all of them; Pop stands last, as the frame is gone then.
func tellings() []telling {
	first := func(f api.Frame, _ bool) api.Frame { return f }
	return []telling{
		{"Front", func(r *rings.Ring) api.Frame { return first(r.Front()) }},
		{"At", func(r *rings.Ring) api.Frame { return first(r.At(0)) }},
		{"Copy, Front", func(r *rings.Ring) api.Frame { return first(r.Copy().Front()) }},
		{"Copy, Pop", func(r *rings.Ring) api.Frame { return first(r.Copy().Pop()) }},
		{"Pop", func(r *rings.Ring) api.Frame { return first(r.Pop()) }},
	}
}

// spoil changes a list all over, also behind its end.
func spoil(members []api.Member) {
	members = members[:cap(members)]
	for i := range members {
		members[i] = api.Member{Node: -9, Since: -9}
	}
}

// The rule R4: what was handed in is not looked at later.
func TestMembersMayBeChangedBehindPush(t *testing.T) {
	for _, told := range tellings() {
		r := made(t, 1)
		f := filled(1)
		r.Push(f)
		spoil(f.Chain.Members)
		checkFrame(t, told.name, told.tell(r), true, filled(1))
	}
}

func TestMembersMayBeChangedBehindEachTelling(t *testing.T) {
	all := tellings()
	for _, before := range all[:len(all)-1] {
		for _, behind := range all {
			r := made(t, 1)
			r.Push(filled(1))
			f := before.tell(r)
			spoil(f.Chain.Members)
			checkFrame(t, before.name+", then "+behind.name, behind.tell(r), true, filled(1))
		}
	}
}

func TestMembersOfTwoTellingsAreApart(t *testing.T) {
	for _, a := range tellings() {
		for _, b := range tellings() {
			r := made(t, 2)
			r.Push(filled(1))
			f := a.tell(r)
			if a.name == "Pop" {
				r.Push(filled(1))
			}
			g := b.tell(r)
			f.Chain.Members = append(f.Chain.Members[:1], api.Member{Node: 4})
			spoil(f.Chain.Members)
			checkFrame(t, a.name+", then "+b.name, g, true, filled(1))
		}
	}
}

func TestMembersMayBeChangedBehindPop(t *testing.T) {
	r := made(t, 2)
	f := filled(1)
	r.Push(f)
	r.Push(f)
	c := r.Copy()
	popped, _ := r.Pop()
	spoil(popped.Chain.Members)
	checkHolds(t, r, 2, []api.Frame{filled(1)})
	checkHolds(t, c, 2, []api.Frame{filled(1), filled(1)})
	checkFrame(t, "what was handed in", f, true, filled(1))
}

// The rule R4: what is handed in stays as it was, whatever becomes of the ring.
func TestWhatIsHandedInStaysAsItWas(t *testing.T) {
	f := filled(1)
	room := append(make([]api.Member, 0, 8), f.Chain.Members...)
	whole := room[:cap(room)]
	before := slices.Clone(whole)
	f.Chain.Members = room
	r := holding(t, 2, 1, []api.Frame{f, f})
	r.Push(f)
	for _, told := range tellings() {
		spoil(told.tell(r).Chain.Members)
	}
	r.Clear()
	if !slices.Equal(whole, before) {
		t.Errorf("the list that was handed in: %v, not %v", whole, before)
	}
	checkFrame(t, "the frame that was handed in", f, true, filled(1))
}

// P3.3: Clear of rings of any fill, at any beginning; all goes on behind it.
func TestClear(t *testing.T) {
	for _, capacity := range []int{1, 2, 3, 64} {
		for _, around := range []int{0, 1, capacity - 1, capacity} {
			for _, count := range []int{0, 1, capacity - 1, capacity} {
				r := holding(t, capacity, around, frames(count))
				r.Clear()
				checkHolds(t, r, capacity, nil)
				checkPops(t, r, nil)
				r.Clear()
				held := frames(capacity)
				for _, f := range held {
					if !r.Push(f) {
						t.Errorf("capacity %d: Push behind Clear: false", capacity)
					}
				}
				checkHolds(t, r, capacity, held)
				checkPops(t, r, held)
			}
		}
	}
}

func TestCopyHasTheSame(t *testing.T) {
	for _, capacity := range []int{1, 2, 3, 64} {
		for _, around := range []int{0, 1, capacity - 1, capacity} {
			for _, count := range []int{0, 1, capacity - 1, capacity} {
				held := frames(count)
				r := holding(t, capacity, around, held)
				c := r.Copy()
				checkHolds(t, c, capacity, held)
				checkHolds(t, c.Copy(), capacity, held)
				checkHolds(t, r, capacity, held)
				checkPops(t, c, held)
				checkHolds(t, r, capacity, held)
			}
		}
	}
}

// What is done to a ring, of which the copy, or the ring that was copied, must know nothing.
func changes() map[string]func(r *rings.Ring) {
	return map[string]func(r *rings.Ring){
		"Push":      func(r *rings.Ring) { r.Push(filled(9)) },
		"Pop":       func(r *rings.Ring) { r.Pop() },
		"Pop, Push": func(r *rings.Ring) { r.Pop(); r.Push(filled(9)) },
		"Clear":     func(r *rings.Ring) { r.Clear() },
		"refill": func(r *rings.Ring) {
			r.Clear()
			for n := range r.Cap() {
				r.Push(filled(20 + n))
			}
		},
	}
}

func TestCopyGoesOnByItself(t *testing.T) {
	for name, change := range changes() {
		t.Run(name, func(t *testing.T) {
			for around := range 4 {
				for count := range 4 {
					held := frames(count)
					r := holding(t, 3, around, held)
					c := r.Copy()
					change(c)
					checkHolds(t, r, 3, held)
					c = r.Copy()
					change(r)
					checkHolds(t, c, 3, held)
					checkPops(t, c, held)
				}
			}
		})
	}
}

// P3.4: the places are gone around many times, with any number of frames in them.
func TestWhatIsPushedIsPoppedInThatOrder(t *testing.T) {
	for capacity := 1; capacity <= 64; capacity++ {
		for _, held := range []int{1, capacity/2 + 1, capacity} {
			r := made(t, capacity)
			in, out := 0, 0
			for range 20 * capacity {
				for in-out < held {
					if !r.Push(plain(in)) {
						t.Fatalf("capacity %d: Push at %d: false", capacity, r.Len())
					}
					in++
				}
				if f, ok := r.Pop(); !ok || f.Seq != out {
					t.Fatalf("capacity %d: Pop: %d, %t, not %d", capacity, f.Seq, ok, out)
				}
				out++
			}
		}
	}
}

// pair is a ring, and a list of all that it must hold.
type pair struct {
	ring *rings.Ring
	held []api.Frame
	next int
}

// step asks the ring for one thing, told by a number, and does the same with the list.
func (p *pair) step(t *testing.T, what, capacity int) {
	t.Helper()
	switch what {
	case 0, 1:
		p.next++
		if ok := p.ring.Push(filled(p.next)); ok != (len(p.held) < capacity) {
			t.Fatalf("Push at %d of %d: %t", len(p.held), capacity, ok)
		} else if ok {
			p.held = append(p.held, filled(p.next))
		}
	case 2:
		f, ok := p.ring.Pop()
		if len(p.held) == 0 {
			checkNone(t, "Pop", f, ok)
			return
		}
		checkFrame(t, "Pop", f, ok, p.held[0])
		p.held = p.held[1:]
	case 3:
		p.ring = p.ring.Copy()
	case 4:
		p.ring.Clear()
		p.held = nil
	}
}

// same checks that the ring holds what the list does, without asking for all else.
func (p *pair) same(t *testing.T) {
	t.Helper()
	if p.ring.Len() != len(p.held) {
		t.Fatalf("Len %d, not %d", p.ring.Len(), len(p.held))
	}
	for i, want := range p.held {
		f, ok := p.ring.At(i)
		checkFrame(t, "At", f, ok, want)
	}
}

func TestAllShortRowsOfStepsAgainstAList(t *testing.T) {
	const length = 6
	for _, capacity := range []int{1, 2, 3} {
		rows := 1
		for range length {
			rows *= 4
		}
		for row := range rows {
			p := pair{ring: made(t, capacity)}
			for range length {
				p.step(t, row%4+1, capacity)
				p.same(t)
				row /= 4
			}
		}
	}
}

func TestLongRowsOfStepsAgainstAList(t *testing.T) {
	state := uint32(1)
	for capacity := 1; capacity <= 64; capacity++ {
		p := pair{ring: made(t, capacity)}
		for n := range 600 {
			state = state*1664525 + 1013904223
			what := int(state>>24) % 4
			if n%150 == 149 {
				what = 4
			}
			p.step(t, what, capacity)
			if n%7 == 0 {
				p.same(t)
			}
		}
		p.same(t)
		checkPops(t, p.ring, p.held)
	}
}

// The rule R2: what was asked before, and told, decides alone.
func TestTheSameStepsAreAnsweredTheSame(t *testing.T) {
	for _, capacity := range []int{1, 2, 5, 64} {
		a, b := pair{ring: made(t, capacity)}, pair{ring: made(t, capacity)}
		for n := range 300 {
			what := (n*n + n/3) % 4
			a.step(t, what, capacity)
			made(t, capacity).Push(filled(n))
			b.step(t, what, capacity)
			for i := -1; i <= capacity; i++ {
				f, is := a.ring.At(i)
				g, ok := b.ring.At(i)
				if is != ok || !reflect.DeepEqual(f, g) {
					t.Fatalf("capacity %d, step %d, At(%d): %+v, %t and %+v, %t", capacity, n, i, f, is, g, ok)
				}
			}
		}
	}
}
