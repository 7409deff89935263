package ops_test

import (
	"math"
	"strings"
	"testing"

	"fairway/api"
	"fairway/ops"
)

// text is a text of so many bytes.
func text(size int) string {
	return strings.Repeat("x", size)
}

// kinds is the four kinds, their neighbours, numbers of which a part looks like a kind, and the least and the greatest int.
func kinds() []int {
	return []int{
		1, 2, 3, 4, 0, -1, -2, -3, -4, 5, 6, 7, 247, 255, 256, 257, 258, 1<<16 + 1, 1<<32 + 1, 1<<32 + 2, 1<<32 + 4,
		api.MaxNumber, api.MaxNumber + 1, math.MaxInt - 1, math.MaxInt, math.MinInt, math.MinInt + 1, math.MinInt + 2, math.MinInt + 4,
	}
}

// keys is keys of each length that counts, and of any bytes.
func keys() []string {
	return []string{
		"", "k", "kk", text(15), text(16), text(17), text(18), text(32), text(64), text(65), text(255), text(256), text(257), text(272), text(65537),
		"\x00", "\xff", "\xf8\x05", " ", "ä", strings.Repeat("ä", 8), strings.Repeat("ä", 9), strings.Repeat("\x00", 16), strings.Repeat("\xff", 17), "\xc3", "a\x00b",
	}
}

// values is values of each length that counts, and of any bytes.
func values() []string {
	return []string{
		"", "v", "vv", text(16), text(17), text(63), text(64), text(65), text(66), text(128), text(255), text(256), text(257), text(320), text(65537),
		"\x00", "\xff", "\xf8\xf8", " ", "ü", strings.Repeat("ü", 32), strings.Repeat("ü", 33), strings.Repeat("\x00", 64), strings.Repeat("\xff", 65),
	}
}

// versions is versions that may be, those beside them, numbers of which a part looks like one, and the least and the greatest int.
func versions() []int {
	return []int{
		0, 1, 2, 7, 245, 246, 247, 248, 254, 255, 256, 4095, 4096, -1, -2, -4096, 4097, 4098, 8192, 65535, 65536, 1 << 32, 1<<32 + 1,
		api.MaxNumber, api.MaxNumber + 1, math.MaxInt - 1, math.MaxInt, math.MinInt, math.MinInt + 1,
	}
}

// all goes through all operations of these kinds, keys, values and versions.
func all(see func(o api.Op)) {
	for _, kind := range kinds() {
		for _, key := range keys() {
			for _, value := range values() {
				for _, version := range versions() {
					see(api.Op{Kind: kind, Key: key, Value: value, Version: version})
				}
			}
		}
	}
}

// taken is all of these that may be.
func taken() []api.Op {
	var l []api.Op
	all(func(o api.Op) {
		if wrong(o) == 0 {
			l = append(l, o)
		}
	})
	return l
}

// wrong is the error's number that the chapter asks for, asked word by word, in numbers.
func wrong(o api.Op) int {
	kind := 0
	for n, is := range []int{1, 2, 3, 4} {
		if o.Kind == is {
			kind = n + 1
		}
	}
	if kind == 0 {
		return 2
	}
	if len(o.Key) == 0 {
		return 2
	}
	if o.Version < 0 || o.Version > 4096 {
		return 2
	}
	if o.Version != 0 && kind != 4 {
		return 2
	}
	if len(o.Value) != 0 && (kind == 1 || kind == 3) {
		return 2
	}
	if len(o.Key) > 16 {
		return 3
	}
	if len(o.Value) > 64 {
		return 3
	}
	return 0
}

// P9.1: each thing that may be wrong, alone and with others: which error comes first.
func TestCheck(t *testing.T) {
	for _, x := range []struct {
		o    api.Op
		want api.Errno
	}{
		{api.Op{Kind: api.OpGet, Key: "k"}, api.OK},
		{api.Op{Kind: api.OpPut, Key: "k", Value: "v"}, api.OK},
		{api.Op{Kind: api.OpPut, Key: "k"}, api.OK},
		{api.Op{Kind: api.OpDelete, Key: "k"}, api.OK},
		{api.Op{Kind: api.OpSwap, Key: "k", Value: "v", Version: 1}, api.OK},
		{api.Op{Kind: api.OpSwap, Key: "k"}, api.OK},
		// The kind.
		{api.Op{Kind: 0, Key: "k"}, api.ErrArg},
		{api.Op{Kind: -1, Key: "k"}, api.ErrArg},
		{api.Op{Kind: 5, Key: "k"}, api.ErrArg},
		{api.Op{Kind: math.MinInt, Key: "k"}, api.ErrArg},
		{api.Op{Kind: math.MaxInt, Key: "k"}, api.ErrArg},
		{api.Op{Kind: 0, Key: "k", Value: "v"}, api.ErrArg},
		{api.Op{Kind: 5, Key: "k", Value: "v", Version: 1}, api.ErrArg},
		{api.Op{}, api.ErrArg},
		// The key.
		{api.Op{Kind: api.OpGet}, api.ErrArg},
		{api.Op{Kind: api.OpPut, Value: "v"}, api.ErrArg},
		{api.Op{Kind: api.OpDelete}, api.ErrArg},
		{api.Op{Kind: api.OpSwap, Value: "v", Version: 1}, api.ErrArg},
		{api.Op{Kind: api.OpGet, Key: text(16)}, api.OK},
		{api.Op{Kind: api.OpGet, Key: text(17)}, api.ErrLong},
		{api.Op{Kind: api.OpPut, Key: text(16)}, api.OK},
		{api.Op{Kind: api.OpPut, Key: text(17)}, api.ErrLong},
		{api.Op{Kind: api.OpDelete, Key: text(16)}, api.OK},
		{api.Op{Kind: api.OpDelete, Key: text(17)}, api.ErrLong},
		{api.Op{Kind: api.OpSwap, Key: text(16)}, api.OK},
		{api.Op{Kind: api.OpSwap, Key: text(17)}, api.ErrLong},
		{api.Op{Kind: api.OpGet, Key: text(1 << 20)}, api.ErrLong},
		// The value.
		{api.Op{Kind: api.OpGet, Key: "k", Value: "v"}, api.ErrArg},
		{api.Op{Kind: api.OpDelete, Key: "k", Value: "v"}, api.ErrArg},
		{api.Op{Kind: api.OpPut, Key: "k", Value: text(64)}, api.OK},
		{api.Op{Kind: api.OpPut, Key: "k", Value: text(65)}, api.ErrLong},
		{api.Op{Kind: api.OpSwap, Key: "k", Value: text(64)}, api.OK},
		{api.Op{Kind: api.OpSwap, Key: "k", Value: text(65)}, api.ErrLong},
		{api.Op{Kind: api.OpPut, Key: "k", Value: text(1 << 20)}, api.ErrLong},
		// The version.
		{api.Op{Kind: api.OpGet, Key: "k", Version: 1}, api.ErrArg},
		{api.Op{Kind: api.OpPut, Key: "k", Version: 1}, api.ErrArg},
		{api.Op{Kind: api.OpDelete, Key: "k", Version: 1}, api.ErrArg},
		{api.Op{Kind: api.OpGet, Key: "k", Version: -1}, api.ErrArg},
		{api.Op{Kind: api.OpPut, Key: "k", Version: 4097}, api.ErrArg},
		{api.Op{Kind: api.OpDelete, Key: "k", Version: 4096}, api.ErrArg},
		{api.Op{Kind: api.OpSwap, Key: "k", Version: -1}, api.ErrArg},
		{api.Op{Kind: api.OpSwap, Key: "k", Version: 4096}, api.OK},
		{api.Op{Kind: api.OpSwap, Key: "k", Version: 4097}, api.ErrArg},
		{api.Op{Kind: api.OpSwap, Key: "k", Version: math.MinInt}, api.ErrArg},
		{api.Op{Kind: api.OpSwap, Key: "k", Version: math.MaxInt}, api.ErrArg},
		// Several at once: what may not be comes ahead of what is too long.
		{api.Op{Kind: 0, Key: text(17)}, api.ErrArg},
		{api.Op{Kind: 5, Key: "k", Value: text(65)}, api.ErrArg},
		{api.Op{Kind: api.OpPut, Value: text(65)}, api.ErrArg},
		{api.Op{Kind: api.OpSwap, Value: text(65)}, api.ErrArg},
		{api.Op{Kind: api.OpGet, Key: text(17), Value: "v"}, api.ErrArg},
		{api.Op{Kind: api.OpGet, Key: "k", Value: text(65)}, api.ErrArg},
		{api.Op{Kind: api.OpDelete, Key: text(17), Value: text(65)}, api.ErrArg},
		{api.Op{Kind: api.OpPut, Key: text(17), Version: 1}, api.ErrArg},
		{api.Op{Kind: api.OpPut, Key: "k", Value: text(65), Version: 1}, api.ErrArg},
		{api.Op{Kind: api.OpSwap, Key: text(17), Version: -1}, api.ErrArg},
		{api.Op{Kind: api.OpSwap, Key: "k", Value: text(65), Version: 4097}, api.ErrArg},
		{api.Op{Kind: api.OpSwap, Key: text(17), Value: text(65), Version: 4096}, api.ErrLong},
		// Lengths are in bytes, and any bytes may be.
		{api.Op{Kind: api.OpGet, Key: strings.Repeat("ä", 8)}, api.OK},
		{api.Op{Kind: api.OpGet, Key: strings.Repeat("ä", 9)}, api.ErrLong},
		{api.Op{Kind: api.OpPut, Key: "k", Value: strings.Repeat("ä", 32)}, api.OK},
		{api.Op{Kind: api.OpPut, Key: "k", Value: strings.Repeat("ä", 33)}, api.ErrLong},
		{api.Op{Kind: api.OpPut, Key: "\xff\xc3\x00", Value: "\x00\x80"}, api.OK},
		{api.Op{Kind: api.OpGet, Key: "\x00"}, api.OK},
		{api.Op{Kind: api.OpGet, Key: " "}, api.OK},
		{api.Op{Kind: api.OpGet, Key: "k", Value: "\x00"}, api.ErrArg},
	} {
		if got := ops.Check(x.o); got != x.want {
			t.Errorf("Check(%.100v) = %d, not %d", x.o, got, x.want)
		}
	}
}

// P9.1: all of them at once.
func TestCheckOfAll(t *testing.T) {
	many := map[int]int{}
	all(func(o api.Op) {
		want := wrong(o)
		many[want]++
		if got := ops.Check(o); int(got) != want {
			t.Fatalf("Check(%.100v) = %d, not %d", o, got, want)
		}
	})
	for _, e := range []int{0, 2, 3} {
		if many[e] == 0 {
			t.Errorf("none with the error %d", e)
		}
	}
}

// P9.1: each length of a key and of a value.
func TestCheckAtEachLength(t *testing.T) {
	for size := range 600 {
		for kind := api.OpGet; kind <= api.OpSwap; kind++ {
			o := api.Op{Kind: kind, Key: text(size)}
			if got, want := ops.Check(o), wrong(o); int(got) != want {
				t.Errorf("a key of %d bytes, of the kind %d: %d, not %d", size, kind, got, want)
			}
			o = api.Op{Kind: kind, Key: "k", Value: text(size)}
			if got, want := ops.Check(o), wrong(o); int(got) != want {
				t.Errorf("a value of %d bytes, of the kind %d: %d, not %d", size, kind, got, want)
			}
		}
	}
}

// P9.1: each version.
func TestCheckAtEachVersion(t *testing.T) {
	for version := -5000; version <= 10000; version++ {
		for kind := api.OpGet; kind <= api.OpSwap; kind++ {
			o := api.Op{Kind: kind, Key: "k", Version: version}
			if got, want := ops.Check(o), wrong(o); int(got) != want {
				t.Errorf("the version %d, of the kind %d: %d, not %d", version, kind, got, want)
			}
		}
	}
}

// P9.2: the bytes count, and nothing else of it.
func TestCost(t *testing.T) {
	for _, x := range []struct {
		o    api.Op
		want int
	}{
		{api.Op{Kind: api.OpPut, Key: "k", Value: "v"}, 18},
		{api.Op{Kind: api.OpPut, Key: "k"}, 17},
		{api.Op{Kind: api.OpGet, Key: "k"}, 17},
		{api.Op{Kind: api.OpDelete, Key: "key"}, 19},
		{api.Op{Kind: api.OpSwap, Key: "key", Value: "value", Version: 1}, 24},
		{api.Op{Kind: api.OpSwap, Key: "key", Value: "value", Version: 4096}, 24},
		{api.Op{Kind: api.OpGet, Key: text(16)}, 32},
		{api.Op{Kind: api.OpDelete, Key: text(16)}, 32},
		{api.Op{Kind: api.OpPut, Key: text(16), Value: text(64)}, 96},
		{api.Op{Kind: api.OpSwap, Key: text(16), Value: text(64), Version: 4096}, 96},
		{api.Op{Kind: api.OpGet, Key: "ä"}, 18},
		{api.Op{Kind: api.OpPut, Key: "ä", Value: "ü\xff\x00"}, 22},
		{api.Op{}, 0},
		{api.Op{Kind: 0, Key: "k"}, 0},
		{api.Op{Kind: 5, Key: "k"}, 0},
		{api.Op{Kind: -1, Key: "k"}, 0},
		{api.Op{Kind: math.MaxInt, Key: "k"}, 0},
		{api.Op{Kind: math.MinInt, Key: "k"}, 0},
		{api.Op{Kind: api.OpPut}, 0},
		{api.Op{Kind: api.OpGet, Key: "k", Value: "v"}, 0},
		{api.Op{Kind: api.OpPut, Key: "k", Version: 1}, 0},
		{api.Op{Kind: api.OpSwap, Key: "k", Version: 4097}, 0},
		{api.Op{Kind: api.OpPut, Key: text(17), Value: "v"}, 0},
		{api.Op{Kind: api.OpPut, Key: "k", Value: text(65)}, 0},
	} {
		if got := ops.Cost(x.o); got != x.want {
			t.Errorf("Cost(%.100v) = %d, not %d", x.o, got, x.want)
		}
	}
}

// P9.2: only a get reads, and only one that may be.
func TestReads(t *testing.T) {
	for _, x := range []struct {
		o    api.Op
		want bool
	}{
		{api.Op{Kind: api.OpGet, Key: "k"}, true},
		{api.Op{Kind: api.OpGet, Key: text(16)}, true},
		{api.Op{Kind: api.OpGet, Key: "\x00\xff"}, true},
		{api.Op{Kind: api.OpPut, Key: "k", Value: "v"}, false},
		{api.Op{Kind: api.OpPut, Key: "k"}, false},
		{api.Op{Kind: api.OpDelete, Key: "k"}, false},
		{api.Op{Kind: api.OpSwap, Key: "k", Value: "v"}, false},
		{api.Op{Kind: api.OpSwap, Key: "k", Version: 4096}, false},
		{api.Op{Kind: api.OpGet}, false},
		{api.Op{Kind: api.OpGet, Key: text(17)}, false},
		{api.Op{Kind: api.OpGet, Key: "k", Value: "v"}, false},
		{api.Op{Kind: api.OpGet, Key: "k", Version: 1}, false},
		{api.Op{Kind: api.OpGet, Key: "k", Version: -1}, false},
		{api.Op{}, false},
		{api.Op{Kind: 0, Key: "k"}, false},
		{api.Op{Kind: 5, Key: "k"}, false},
		{api.Op{Kind: -1, Key: "k"}, false},
		{api.Op{Kind: math.MaxInt, Key: "k"}, false},
		{api.Op{Kind: math.MinInt, Key: "k"}, false},
	} {
		if got := ops.Reads(x.o); got != x.want {
			t.Errorf("Reads(%.100v) = %t", x.o, got)
		}
	}
}

// P9.2 and P9.4: all of them at once; none costs more than MaxCost, and some cost that.
func TestCostAndReadsOfAll(t *testing.T) {
	most, reads := 0, 0
	all(func(o api.Op) {
		cost, read := 0, false
		if wrong(o) == 0 {
			cost, read = 16+len(o.Key)+len(o.Value), o.Kind == 1
		}
		if got := ops.Cost(o); got != cost || got > api.MaxCost {
			t.Fatalf("Cost(%.100v) = %d, not %d", o, got, cost)
		}
		if got := ops.Reads(o); got != read {
			t.Fatalf("Reads(%.100v) = %t", o, got)
		}
		most = max(most, cost)
		if read {
			reads++
		}
	})
	if most != api.MaxCost || reads == 0 {
		t.Errorf("the greatest cost is %d; %d read", most, reads)
	}
}

// P9.4: each length of both.
func TestCostAtEachLength(t *testing.T) {
	for key := 1; key <= 16; key++ {
		for value := range 65 {
			for _, kind := range []int{api.OpPut, api.OpSwap} {
				o := api.Op{Kind: kind, Key: text(key), Value: text(value)}
				if got := ops.Cost(o); got != 16+key+value || got > api.MaxCost {
					t.Errorf("Cost of %d and %d bytes, of the kind %d: %d", key, value, kind, got)
				}
			}
		}
	}
}

// The rules R1 and R2: each call ends without a panic, and answers the same again, whatever was asked between.
func TestTheSameIsAnsweredAgain(t *testing.T) {
	other := api.Op{Kind: api.OpSwap, Key: "other", Value: "value", Version: 9}
	all(func(o api.Op) {
		check, cost, reads := ops.Check(o), ops.Cost(o), ops.Reads(o)
		s, e := ops.Put(o)
		ops.Check(other)
		ops.Put(other)
		ops.Get("\x02\x01")
		if ops.Check(o) != check || ops.Cost(o) != cost || ops.Reads(o) != reads {
			t.Fatalf("%.100v: Check, Cost or Reads is not the same again", o)
		}
		if again, err := ops.Put(o); again != s || err != e {
			t.Fatalf("Put(%.100v): %q, %d, and again %q, %d", o, s, e, again, err)
		}
	})
}
