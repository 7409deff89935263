package frames_test

import (
	"math"
	"slices"
	"strings"
	"testing"

	"fairway/api"
	"fairway/frames"
)

func checkSame(t *testing.T, a, b api.Frame, want bool) {
	t.Helper()
	if frames.Same(a, b) != want || frames.Same(b, a) != want {
		t.Fatalf("Same(%.300v, %.300v): %t, and turned about %t", a, b, frames.Same(a, b), frames.Same(b, a))
	}
}

// bases is frames of each kind, of Kinds that are none, and with anything at all in them.
func bases() (l []api.Frame) {
	for kind := -1; kind <= 14; kind++ {
		l = append(l, of(kind, full()), api.Frame{Kind: kind}, plain(of(kind, full())), of(kind, junk(-1)))
	}
	return append(l, junks()...)
}

// P13.4: each number and each text another one, also in what the kind does not have.
func TestSameOfOneField(t *testing.T) {
	for _, f := range bases() {
		checkSame(t, f, f, true)
		checkSame(t, f, own(f), true)
		checkSame(t, f, roomy(f), true)
		for _, name := range allNumbers() {
			n := *field(&f, name)
			for _, by := range []int{1, -1, 2, 1 << 16, 1 << 32, math.MinInt} {
				checkSame(t, f, with(f, name, n+by), false)
			}
		}
		for _, name := range allTexts() {
			s := *text(&f, name)
			checkSame(t, f, withText(f, name, strings.Clone(s)), true)
			checkSame(t, f, withText(f, name, s+"\x00"), false)
			checkSame(t, f, withText(f, name, "\x00"+s), false)
			if s != "" {
				checkSame(t, f, withText(f, name, ""), false)
				checkSame(t, f, withText(f, name, s[1:]), false)
				checkSame(t, f, withText(f, name, s[:len(s)-1]), false)
				checkSame(t, f, withText(f, name, s[:len(s)-1]+"\xfe"), false)
			}
		}
	}
}

// P13.4: two numbers, or two texts, the one for the other.
func TestSameOfTwoFieldsTurnedAbout(t *testing.T) {
	for kind := -1; kind <= 14; kind++ {
		f := of(kind, full())
		for i, name := range allNumbers() {
			for _, other := range allNumbers()[i+1:] {
				n, m := *field(&f, name), *field(&f, other)
				checkSame(t, f, with(with(f, name, m), other, n), n == m)
				checkSame(t, f, with(with(f, name, n+1), other, m-1), false)
			}
		}
		for i, name := range allTexts() {
			for _, other := range allTexts()[i+1:] {
				s, o := *text(&f, name), *text(&f, other)
				checkSame(t, f, withText(withText(f, name, o), other, s), s == o)
				checkSame(t, f, withText(withText(f, name, s+o), other, ""), false)
			}
		}
	}
}

// P13.4: one field of one member, how many there are, and their order.
func TestSameOfMembers(t *testing.T) {
	for _, f := range bases() {
		count := len(f.Chain.Members)
		for i := range count {
			for _, by := range []int{1, -1, 1 << 32, math.MinInt} {
				checkSame(t, f, changed(f, func(f *api.Frame) { f.Chain.Members[i].Node += by }), false)
				checkSame(t, f, changed(f, func(f *api.Frame) { f.Chain.Members[i].Since += by }), false)
			}
		}
		checkSame(t, f, changed(f, func(f *api.Frame) { f.Chain.Members = append(f.Chain.Members, api.Member{}) }), false)
		checkSame(t, f, changed(f, func(f *api.Frame) { f.Chain.Members = append([]api.Member{{Node: 1}}, f.Chain.Members...) }), false)
		if count > 0 {
			checkSame(t, f, changed(f, func(f *api.Frame) { f.Chain.Members = nil }), false)
			checkSame(t, f, changed(f, func(f *api.Frame) { f.Chain.Members = f.Chain.Members[1:] }), false)
			checkSame(t, f, changed(f, func(f *api.Frame) { f.Chain.Members = f.Chain.Members[:count-1] }), false)
		}
		if count == 2 {
			checkSame(t, f, changed(f, func(f *api.Frame) { slices.Reverse(f.Chain.Members) }), false)
		}
	}
}

// P13.4: no Members as nil and as an empty slice are the same.
func TestSameOfNoMembers(t *testing.T) {
	for kind := -1; kind <= 14; kind++ {
		f := of(kind, full())
		f.Chain.Members = nil
		for _, none := range [][]api.Member{nil, {}, make([]api.Member, 0, 4), full().Chain.Members[:0]} {
			other := f
			other.Chain.Members = none
			checkSame(t, f, other, true)
			other.Chain.Members = make([]api.Member, 1)
			checkSame(t, f, other, false)
		}
	}
}

// P13.4: any two frames.
func TestSameOfAnyTwo(t *testing.T) {
	all := append(bases(), shortOnes()...)
	for i, a := range all {
		for _, b := range all[i:] {
			checkSame(t, a, b, same(a, b))
		}
	}
}

// P13.4 and the rules R2 and R4: what is held against each other stays as it was, and is told the same again.
func TestSameLeavesAllAsItWas(t *testing.T) {
	for _, a := range bases() {
		for _, b := range bases() {
			one, two := roomy(a), roomy(b)
			want := frames.Same(one, two)
			checkRoom(t, "Same", one, a)
			checkRoom(t, "Same", two, b)
			if frames.Same(one, two) != want {
				t.Fatalf("Same(%.300v, %.300v): %t, and then not", a, b, want)
			}
		}
	}
}

// P13.4: a frame and the same one as Plain, of each kind: they differ where the kind does not have all that is set.
func TestSameOfPlain(t *testing.T) {
	for kind := -1; kind <= 14; kind++ {
		f := of(kind, full())
		checkSame(t, f, frames.Plain(f), false)
		checkSame(t, frames.Plain(f), frames.Plain(f), true)
		checkSame(t, frames.Plain(f), frames.Plain(mixed(f, junk(7))), true)
	}
}
