package kv_test

import (
	"math"
	"slices"
	"strings"
	"testing"

	"fairway/api"
	"fairway/kv"
)

// text is a text of so many bytes.
func text(size int) string {
	return strings.Repeat("x", size)
}

func get(key string) api.Op        { return api.Op{Kind: 1, Key: key} }
func put(key, value string) api.Op { return api.Op{Kind: 2, Key: key, Value: value} }
func remove(key string) api.Op     { return api.Op{Kind: 3, Key: key} }
func swap(key, value string, version int) api.Op {
	return api.Op{Kind: 4, Key: key, Value: value, Version: version}
}

// done is ReOK of what changed something; read is ReOK of what was looked at.
func done(version, at int) api.Result { return api.Result{Code: 1, Version: version, At: at} }
func read(value string, version, at int) api.Result {
	return api.Result{Code: 1, Value: value, Version: version, At: at}
}
func missing(at int) api.Result { return api.Result{Code: 2, At: at} }
func other(value string, version, at int) api.Result {
	return api.Result{Code: 3, Value: value, Version: version, At: at}
}

// step is an entry, and what becomes of it.
type step struct {
	index int
	o     api.Op
	want  api.Result
}

func made(t *testing.T) *kv.Store {
	t.Helper()
	s := kv.New()
	if s == nil {
		t.Fatal("New tells nil")
	}
	return s
}

// madeOf is a store to which these were applied, as the entries from 1 on.
func madeOf(t *testing.T, l ...api.Op) *kv.Store {
	t.Helper()
	s := made(t)
	for i, o := range l {
		if r := s.Apply(i+1, o); r.Code != api.ReOK {
			t.Fatalf("Apply(%d, %v) = %v", i+1, o, r)
		}
	}
	return s
}

func checkStep(t *testing.T, s *kv.Store, x step) {
	t.Helper()
	if r := s.Apply(x.index, x.o); r != x.want {
		t.Fatalf("Apply(%d, %.100v) = %v, not %v", x.index, x.o, r, x.want)
	}
}

func checkLook(t *testing.T, s *kv.Store, key string, at int, want api.Result) {
	t.Helper()
	for range 2 {
		if r := s.Look(key, at); r != want {
			t.Fatalf("Look(%.100q, %d) = %v, not %v", key, at, r, want)
		}
	}
}

func checkKeys(t *testing.T, s *kv.Store, want ...string) {
	t.Helper()
	for range 2 {
		if l := s.Keys(); !slices.Equal(l, want) {
			t.Fatalf("Keys: %.200q, not %.200q", l, want)
		}
		if n := s.Size(); n != len(want) {
			t.Fatalf("Size: %d, not %d", n, len(want))
		}
	}
}

// checkSame asks both ways, and of each one with itself.
func checkSame(t *testing.T, a, b *kv.Store, want bool) {
	t.Helper()
	if kv.Same(a, b) != want || kv.Same(b, a) != want {
		t.Fatalf("Same: %t, and %t the other way, not %t", kv.Same(a, b), kv.Same(b, a), want)
	}
	if !kv.Same(a, a) || !kv.Same(b, b) {
		t.Fatal("Same of one with itself: false")
	}
}

// none is stores that are nil, or that New did not make, made anew.
func none() map[string]*kv.Store {
	return map[string]*kv.Store{"nil": nil, "zero": {}, "new": new(kv.Store), "copied": (*kv.Store)(nil).Copy()}
}

// ats is numbers behind which may be looked: each may.
func ats() []int {
	return []int{0, 1, 2, 7, -1, -2, 4095, 4096, 4097, 1 << 31, 1 << 32, api.MaxNumber, math.MaxInt - 1, math.MaxInt, math.MinInt, math.MinInt + 1}
}

// odd is indices that may not be.
func odd() []int {
	return []int{0, -1, -2, -4096, 4097, 4098, 8192, 1 << 16, 1 << 31, 1 << 32, 1<<32 + 1, 1<<32 + 4096, api.MaxNumber, 1<<62 + 1, math.MaxInt - 1, math.MaxInt, math.MinInt, math.MinInt + 1, math.MinInt + 2}
}

// refused is operations that may not be, or are too long.
func refused() []api.Op {
	return []api.Op{
		{},
		{Kind: 0, Key: "k"},
		{Kind: -1, Key: "k"},
		{Kind: 5, Key: "k"},
		{Kind: 5, Key: "k", Value: "w", Version: 1},
		{Kind: 1<<32 + 2, Key: "k", Value: "w"},
		{Kind: math.MaxInt, Key: "k"},
		{Kind: math.MinInt, Key: "k"},
		get(""), put("", "w"), remove(""), swap("", "w", 0), swap("", "w", 1),
		{Kind: 1, Key: "k", Value: "w"},
		{Kind: 3, Key: "k", Value: "w"},
		{Kind: 1, Key: "k", Version: 1},
		{Kind: 2, Key: "k", Value: "w", Version: 1},
		{Kind: 3, Key: "k", Version: 1},
		{Kind: 2, Key: "k", Value: "w", Version: -1},
		swap("k", "w", -1), swap("k", "w", 4097), swap("k", "w", math.MaxInt), swap("k", "w", math.MinInt), swap("k", "w", 1<<32+1),
		get(text(17)), put(text(17), "w"), remove(text(17)), swap(text(17), "w", 0), swap(text(17), "w", 2),
		put("k", text(65)), swap("k", text(65), 1), swap("new", text(65), 0),
		put(text(1<<20), "w"), put("k", text(1<<20)),
		put(strings.Repeat("ä", 9), "w"), put("k", strings.Repeat("ä", 33)),
	}
}

// P10.1 and P10.3: a new store has no keys, also when others have some.
func TestNew(t *testing.T) {
	a, b := made(t), made(t)
	checkKeys(t, a)
	checkSame(t, a, b, true)
	checkStep(t, a, step{1, put("k", "v"), done(1, 1)})
	checkKeys(t, b)
	checkKeys(t, made(t))
	for _, at := range ats() {
		checkLook(t, b, "k", at, missing(at))
	}
	checkStep(t, b, step{2, put("k", "w"), done(2, 2)})
	checkLook(t, a, "k", 2, read("v", 1, 2))
}

// The chapter's examples.
func TestExamples(t *testing.T) {
	s := made(t)
	checkStep(t, s, step{1, put("k", "v"), done(1, 1)})
	checkStep(t, s, step{2, swap("k", "w", 0), other("v", 1, 2)})
	checkStep(t, s, step{2, swap("k", "w", 1), done(2, 2)})
	checkLook(t, s, "k", 7, read("w", 2, 7))
	checkStep(t, s, step{3, remove("k"), done(0, 3)})
	checkStep(t, s, step{3, remove("k"), missing(3)})
}

// P10.1: the value, the version, and whatever At was handed in.
func TestLook(t *testing.T) {
	s := made(t)
	s.Apply(1, put("k", "v"))
	s.Apply(4096, put("last", text(64)))
	s.Apply(7, put("without", ""))
	s.Apply(8, put(text(16), "\x00\xff"))
	s.Apply(9, put("gone", "v"))
	s.Apply(10, remove("gone"))
	for _, at := range ats() {
		checkLook(t, s, "k", at, read("v", 1, at))
		checkLook(t, s, "last", at, read(text(64), 4096, at))
		checkLook(t, s, "without", at, read("", 7, at))
		checkLook(t, s, text(16), at, read("\x00\xff", 8, at))
		checkLook(t, s, "gone", at, missing(at))
		for _, key := range []string{
			"", "v", "K", "kk", "las", "lastt", " k", "k ", "k\x00", "\x00", "\xff", text(15), text(17), text(64), text(1 << 20),
			strings.Repeat("k", 1<<20), strings.Repeat("\x00", 1<<16),
		} {
			checkLook(t, s, key, at, missing(at))
		}
	}
	checkKeys(t, s, "k", "last", "without", text(16))
}

// P10.1: keys are held against each other byte by byte.
func TestLookOfKeysThatAreAlike(t *testing.T) {
	keys := []string{"k", "K", "kk", "k\x00", "\x00k", "\x00", "\x00\x00", " ", "ä", "a\xcc\x88", "\xc3", "\xa4", "\xff", "\xfe", "\xef\xbf\xbd", "0", "00", text(15), text(16)}
	s := made(t)
	for i, key := range keys {
		for _, later := range keys[i:] {
			checkLook(t, s, later, 5, missing(5))
		}
		checkStep(t, s, step{i + 1, put(key, "of "+key), done(i+1, i+1)})
	}
	for i, key := range keys {
		checkLook(t, s, key, 5, read("of "+key, i+1, 5))
	}
	slices.Sort(keys)
	checkKeys(t, s, keys...)
}

// P10.2: steps of each kind, one behind the other.
func TestApply(t *testing.T) {
	for name, row := range map[string][]step{
		"put": {
			{1, put("k", "v"), done(1, 1)},
			{2, get("k"), read("v", 1, 2)},
			{3, put("k", "w"), done(3, 3)},
			{4, get("k"), read("w", 3, 4)},
			{5, put("k", "w"), done(5, 5)},
			{6, put("k", ""), done(6, 6)},
			{7, get("k"), read("", 6, 7)},
			{8, put("k", text(64)), done(8, 8)},
			{9, get("k"), read(text(64), 8, 9)},
			{10, put(text(16), "v"), done(10, 10)},
			{11, get(text(16)), read("v", 10, 11)},
		},
		"delete": {
			{1, remove("k"), missing(1)},
			{2, remove("k"), missing(2)},
			{3, put("k", "v"), done(3, 3)},
			{4, remove("k"), done(0, 4)},
			{5, get("k"), missing(5)},
			{6, remove("k"), missing(6)},
			{7, remove("k"), missing(7)},
			{8, put("k", "v"), done(8, 8)},
			{9, get("k"), read("v", 8, 9)},
			{10, put("k", ""), done(10, 10)},
			{11, remove("k"), done(0, 11)},
		},
		"swap of what is missing": {
			{1, swap("k", "v", 1), other("", 0, 1)},
			{2, swap("k", "v", 4096), other("", 0, 2)},
			{3, swap("k", "v", 3), other("", 0, 3)},
			{4, get("k"), missing(4)},
			{5, swap("k", "v", 0), done(5, 5)},
			{6, get("k"), read("v", 5, 6)},
			{7, remove("k"), done(0, 7)},
			{8, swap("k", "w", 5), other("", 0, 8)},
			{8, swap("k", "w", 7), other("", 0, 8)},
			{9, swap("k", "", 0), done(9, 9)},
			{10, get("k"), read("", 9, 10)},
		},
		"swap of what is there": {
			{3, put("k", "v"), done(3, 3)},
			{4, swap("k", "w", 0), other("v", 3, 4)},
			{5, swap("k", "w", 1), other("v", 3, 5)},
			{6, swap("k", "w", 2), other("v", 3, 6)},
			{7, swap("k", "w", 4), other("v", 3, 7)},
			{8, swap("k", "w", 8), other("v", 3, 8)},
			{9, swap("k", "w", 4096), other("v", 3, 9)},
			{10, get("k"), read("v", 3, 10)},
			{11, swap("k", "w", 3), done(11, 11)},
			{12, swap("k", "x", 3), other("w", 11, 12)},
			{13, get("k"), read("w", 11, 13)},
			{14, swap("k", "", 11), done(14, 14)},
			{15, swap("k", "x", 0), other("", 14, 15)},
			{16, swap("k", text(64), 14), done(16, 16)},
			{17, swap("k", "x", 14), other(text(64), 16, 17)},
		},
		"get": {
			{1, get("k"), missing(1)},
			{1, get("k"), missing(1)},
			{4096, get("k"), missing(4096)},
			{2, put("k", "v"), done(2, 2)},
			{1, get("k"), read("v", 2, 1)},
			{2, get("k"), read("v", 2, 2)},
			{4096, get("k"), read("v", 2, 4096)},
			{3, get(text(16)), missing(3)},
			{3, swap("k", "w", 2), done(3, 3)},
		},
		"indices in any order": {
			{4096, put("k", "v"), done(4096, 4096)},
			{1, put("k", "w"), done(1, 1)},
			{1, put("k", "x"), done(1, 1)},
			{1, swap("k", "y", 1), done(1, 1)},
			{1, get("k"), read("y", 1, 1)},
			{4096, swap("k", "z", 1), done(4096, 4096)},
			{2, swap("k", "a", 4096), done(2, 2)},
			{1, remove("k"), done(0, 1)},
			{1, swap("k", "b", 0), done(1, 1)},
		},
	} {
		t.Run(name, func(t *testing.T) {
			s := made(t)
			for _, x := range row {
				checkStep(t, s, x)
			}
		})
	}
}

// P10.2: what each kind leaves.
func TestWhatApplyLeaves(t *testing.T) {
	s := made(t)
	for _, x := range []struct {
		o    api.Op
		keys []string
	}{
		{get("k"), nil},
		{remove("k"), nil},
		{swap("k", "v", 1), nil},
		{put("k", "v"), []string{"k"}},
		{put("k", "w"), []string{"k"}},
		{get("l"), []string{"k"}},
		{remove("l"), []string{"k"}},
		{swap("l", "v", 5), []string{"k"}},
		{swap("l", "v", 0), []string{"k", "l"}},
		{swap("l", "v", 1), []string{"k", "l"}},
		{put("a", ""), []string{"a", "k", "l"}},
		{remove("k"), []string{"a", "l"}},
		{remove("k"), []string{"a", "l"}},
		{put("k", ""), []string{"a", "k", "l"}},
		{remove("a"), []string{"k", "l"}},
		{remove("l"), []string{"k"}},
		{remove("k"), nil},
		{remove("k"), nil},
	} {
		s.Apply(9, x.o)
		checkKeys(t, s, x.keys...)
	}
	checkSame(t, s, made(t), true)
}

// P10.2: each index that may be is the version, and At.
func TestApplyAtEachIndex(t *testing.T) {
	for index := 1; index <= 4096; index++ {
		s := made(t)
		checkStep(t, s, step{index, swap("k", "v", index), other("", 0, index)})
		checkStep(t, s, step{index, put("k", "v"), done(index, index)})
		checkStep(t, s, step{index, get("k"), read("v", index, index)})
		checkStep(t, s, step{index, swap("k", "w", index-1), other("v", index, index)})
		checkStep(t, s, step{index, swap("k", "w", index), done(index, index)})
		checkStep(t, s, step{index, remove("k"), done(0, index)})
		checkStep(t, s, step{index, remove("k"), missing(index)})
	}
}

// P10.2: an index that may not be: nothing is told, and nothing is changed, by whichever operation.
func TestApplyAtIndicesThatMayNotBe(t *testing.T) {
	s := madeOf(t, put("k", "v"), put("l", "w"))
	same := s.Copy()
	for _, index := range odd() {
		for _, o := range append(refused(), get("k"), get("m"), put("k", "x"), put("m", "x"), remove("k"), remove("m"), swap("k", "x", 1), swap("k", "x", 0), swap("m", "x", 0), swap("m", "x", 1)) {
			checkStep(t, s, step{index, o, api.Result{}})
			checkSame(t, s, same, true)
		}
	}
	checkKeys(t, s, "k", "l")
	checkLook(t, s, "k", 2, read("v", 1, 2))
}

// P10.2: an operation that is refused: nothing is told, and nothing is changed, at whichever index.
func TestApplyOfOperationsThatAreRefused(t *testing.T) {
	s := madeOf(t, put("k", "v"), put("l", "w"))
	same, empty := s.Copy(), made(t)
	for _, o := range refused() {
		for _, index := range append(odd(), 1, 2, 3, 4095, 4096) {
			checkStep(t, s, step{index, o, api.Result{}})
			checkStep(t, empty, step{index, o, api.Result{}})
			checkSame(t, s, same, true)
			checkKeys(t, empty)
		}
	}
	checkKeys(t, s, "k", "l")
	checkLook(t, s, "k", 2, read("v", 1, 2))
}

// P10.3: no keys, one, and many, put in all orders.
func TestKeysInAllOrders(t *testing.T) {
	keys := []string{"a", "b", "ab", "\x00", "\xff", "B"}
	for size := range len(keys) + 1 {
		rising := slices.Sorted(slices.Values(keys[:size]))
		orders(slices.Clone(rising), func(order []string) {
			s := made(t)
			for i, key := range order {
				s.Apply(i+1, put(key, key))
			}
			checkKeys(t, s, rising...)
		})
	}
}

// orders goes through all orders of a list.
func orders(l []string, see func([]string)) {
	var swap func(done int)
	swap = func(done int) {
		if done == len(l) {
			see(l)
			return
		}
		for i := done; i < len(l); i++ {
			l[done], l[i] = l[i], l[done]
			swap(done + 1)
			l[done], l[i] = l[i], l[done]
		}
	}
	swap(0)
}

// P10.3: they rise by their bytes, whatever else they look like.
func TestKeysRiseByTheirBytes(t *testing.T) {
	s := made(t)
	rising := []string{"\x00", "\x00\x00", "\x00\xff", "\x01", " ", "-1", "0", "00", "1", "10", "11", "2", "9", "A", "Z", "_", "a", "a\x00", "a ", "aa", "aaaaaaaaaaaaaaaa", "ab", "b", "z", "\x7f", "\x80", "\xc3", "Ä", "ä", "ü", "\xe2\x82\xac", "\xf0\x9f\x98\x80", "\xff", "\xff\x00", "\xff\xff"}
	for n := range rising {
		s.Apply(n+1, put(rising[n*16%len(rising)], "v"))
	}
	checkKeys(t, s, rising...)
}

// P10.3: as many keys as entries.
func TestManyKeys(t *testing.T) {
	s := made(t)
	var rising []string
	for n := range 4096 {
		rising = append(rising, string([]byte{byte(n / 256), byte(n % 256)}))
	}
	for i := 1; i <= 4096; i++ {
		checkStep(t, s, step{i, put(rising[i*1365%4096], text(i%65)), done(i, i)})
		if n := s.Size(); n != i {
			t.Fatalf("Size behind %d: %d", i, n)
		}
	}
	checkKeys(t, s, rising...)
	for i := 1; i <= 4096; i++ {
		checkLook(t, s, rising[i*1365%4096], i, read(text(i%65), i, i))
	}
	checkSame(t, s, s.Copy(), true)
	for i, key := range rising {
		checkStep(t, s, step{i + 1, remove(key), done(0, i+1)})
	}
	checkKeys(t, s)
}

// The rule R4: the list that is told is the caller's own.
func TestKeysAreToldAnew(t *testing.T) {
	s := madeOf(t, put("b", "v"), put("a", "v"), put("c", "v"))
	first, second := s.Keys(), s.Keys()
	first[0], first[1] = "x", "y"
	_ = append(first[:2], "z")
	if !slices.Equal(second, []string{"a", "b", "c"}) {
		t.Errorf("another list became %q", second)
	}
	checkKeys(t, s, "a", "b", "c")
	s.Apply(4, remove("b"))
	s.Apply(5, put("d", ""))
	if !slices.Equal(second, []string{"a", "b", "c"}) {
		t.Errorf("a list that was told became %q", second)
	}
}

// Of stores that are none the chapter says what is told; nothing that is asked makes one of them.
func TestStoresThatAreNone(t *testing.T) {
	for name, s := range none() {
		t.Run(name, func(t *testing.T) {
			for range 2 {
				for _, index := range append(odd(), 1, 2, 4096) {
					for _, o := range append(refused(), get("k"), put("k", "v"), remove("k"), swap("k", "v", 0), swap("k", "v", 1)) {
						checkStep(t, s, step{index, o, api.Result{}})
					}
				}
				for _, at := range ats() {
					checkLook(t, s, "k", at, api.Result{})
					checkLook(t, s, "", at, api.Result{})
				}
				checkKeys(t, s)
				if c := s.Copy(); c != nil {
					t.Errorf("Copy: %v", c)
				}
			}
		})
	}
}
