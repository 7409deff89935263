package kv_test

import (
	"testing"
	"unsafe"

	"fairway/api"
	"fairway/kv"
)

// P10.3: a copy has the same, and what is done to one of both makes no difference to the other one.
func TestCopy(t *testing.T) {
	begin := []api.Op{put("k", "v"), put("l", ""), put("m", text(64))}
	for _, x := range []struct {
		o    api.Op
		keys []string
		look api.Result
	}{
		{put("k", "w"), []string{"k", "l", "m"}, read("w", 9, 0)},
		{put("k", "v"), []string{"k", "l", "m"}, read("v", 9, 0)},
		{put("a", "w"), []string{"a", "k", "l", "m"}, read("v", 1, 0)},
		{remove("k"), []string{"l", "m"}, missing(0)},
		{remove("m"), []string{"k", "l"}, read("v", 1, 0)},
		{swap("k", "w", 1), []string{"k", "l", "m"}, read("w", 9, 0)},
		{swap("z", "w", 0), []string{"k", "l", "m", "z"}, read("v", 1, 0)},
	} {
		first, second := madeOf(t, begin...), madeOf(t, begin...)
		firstCopy, secondCopy := first.Copy(), second.Copy()
		checkSame(t, first, firstCopy, true)
		first.Apply(9, x.o)
		secondCopy.Apply(9, x.o)
		for _, changed := range []*kv.Store{first, secondCopy} {
			checkKeys(t, changed, x.keys...)
			checkLook(t, changed, "k", 0, x.look)
		}
		for _, kept := range []*kv.Store{firstCopy, second} {
			checkKeys(t, kept, "k", "l", "m")
			checkLook(t, kept, "k", 0, read("v", 1, 0))
			checkSame(t, kept, madeOf(t, begin...), true)
			checkSame(t, kept, first, false)
		}
		checkSame(t, first, secondCopy, true)
	}
}

// P10.3: a copy of a store without keys is a store, as is a copy of a copy.
func TestCopyOfOneWithoutKeys(t *testing.T) {
	s := made(t)
	c := s.Copy()
	d := c.Copy()
	for _, one := range []*kv.Store{c, d} {
		if one == nil {
			t.Fatal("Copy tells nil")
		}
		checkSame(t, s, one, true)
		checkLook(t, one, "k", 3, missing(3))
	}
	checkStep(t, c, step{1, put("k", "v"), done(1, 1)})
	checkStep(t, d, step{2, put("k", "w"), done(2, 2)})
	checkKeys(t, s)
	checkLook(t, c, "k", 0, read("v", 1, 0))
	checkLook(t, d, "k", 0, read("w", 2, 0))
	emptied := madeOf(t, put("k", "v"), remove("k")).Copy()
	checkKeys(t, emptied)
	checkStep(t, emptied, step{3, put("k", "v"), done(3, 3)})
}

// entry is an operation at an index.
type entry struct {
	index int
	o     api.Op
}

// behind is a store to which these were applied, in this order.
func behind(t *testing.T, l ...entry) *kv.Store {
	t.Helper()
	s := made(t)
	for _, x := range l {
		s.Apply(x.index, x.o)
	}
	return s
}

// P10.3: stores that differ in one thing alone, and ones that came to the same by other ways.
func TestSame(t *testing.T) {
	both := behind(t, entry{1, put("k", "v")}, entry{2, put("l", "w")})
	stores := []*kv.Store{
		both,
		behind(t),
		behind(t, entry{1, put("k", "v")}),
		behind(t, entry{1, put("k", "w")}),
		behind(t, entry{1, put("k", "")}),
		behind(t, entry{2, put("k", "v")}),
		behind(t, entry{1, put("l", "v")}),
		behind(t, entry{1, put("l", "")}),
		behind(t, entry{1, put("k\x00", "v")}),
		behind(t, entry{1, put("kv", "")}),
		behind(t, entry{1, put("k", "w")}, entry{2, put("l", "v")}),
		behind(t, entry{2, put("k", "v")}, entry{1, put("l", "w")}),
		behind(t, entry{1, put("k", "v")}, entry{3, put("l", "w")}),
		behind(t, entry{1, put("k", "v")}, entry{2, put("m", "w")}),
		behind(t, entry{1, put("k", "v")}, entry{1, put("l", "")}),
		behind(t, entry{1, put("k", "v")}, entry{2, put("l", "w")}, entry{3, put("m", "x")}),
		behind(t, entry{4096, put("k", "v")}),
	}
	for i, a := range stores {
		for n, b := range stores {
			checkSame(t, a, b, i == n)
			checkSame(t, a.Copy(), b, i == n)
		}
	}
	for _, row := range [][]entry{
		{{2, put("l", "w")}, {1, put("k", "v")}},
		{{1, put("k", "v")}, {1, put("l", "x")}, {2, swap("l", "w", 1)}},
		{{5, put("m", "x")}, {2, put("l", "w")}, {6, remove("m")}, {1, swap("k", "v", 0)}, {7, remove("m")}},
		{{1, put("k", "v")}, {2, put("l", "w")}, {3, swap("l", "x", 1)}, {3, get("l")}, {0, put("l", "x")}},
	} {
		checkSame(t, behind(t, row...), both, true)
	}
}

// P10.3: of one that is none Same tells whether both are.
func TestSameOfStoresThatAreNone(t *testing.T) {
	for _, a := range none() {
		for _, b := range none() {
			checkSame(t, a, b, true)
		}
		checkSame(t, a, made(t), false)
		checkSame(t, a, made(t).Copy(), false)
		checkSame(t, a, madeOf(t, put("k", "v")), false)
		checkSame(t, a, madeOf(t, put("k", "v"), remove("k")), false)
	}
}

// The rule R4: whoever handed a text in may use its bytes for something else: they are not looked at later.
func TestTextsAreNotKept(t *testing.T) {
	bytes := []byte("keyvalue")
	whole := unsafe.String(&bytes[0], len(bytes))
	for _, version := range []int{0, 1} {
		s := made(t)
		if version > 0 {
			s.Apply(version, put("key", "old"))
		}
		for _, o := range []api.Op{put(whole[:3], whole[3:]), swap(whole[:3], whole[3:], version)} {
			c := s.Copy()
			copy(bytes, "keyvalue")
			checkStep(t, c, step{2, o, done(2, 2)})
			r := c.Look(whole[:3], 2)
			copy(bytes, "xxxyyyyy")
			if r != read("value", 2, 2) {
				t.Errorf("what was told became %v", r)
			}
			checkKeys(t, c, "key")
			checkLook(t, c, "key", 2, read("value", 2, 2))
			checkLook(t, c, "xxx", 2, missing(2))
			checkStep(t, c, step{3, swap("key", "new", 0), other("value", 2, 3)})
		}
	}
}
