package kv_test

import (
	"slices"
	"testing"

	"fairway/api"
	"fairway/kv"
)

// plain is what the chapter asks for of a store: all that was written, in order; a version of 0: it was taken out.
type plain []written

type written struct {
	key, value string
	version    int
}

// of is what was written last of a key.
func (p plain) of(key string) written {
	for i := len(p) - 1; i >= 0; i-- {
		if p[i].key == key {
			return p[i]
		}
	}
	return written{key: key}
}

// apply is the result that is asked for of an operation that may be.
func (p *plain) apply(index int, o api.Op) api.Result {
	is := p.of(o.Key)
	there := is.version != 0
	switch {
	case o.Kind == 1 && there:
		return read(is.value, is.version, index)
	case o.Kind == 1, o.Kind == 3 && !there:
		return missing(index)
	case o.Kind == 3:
		*p = append(*p, written{key: o.Key})
		return done(0, index)
	case o.Kind == 4 && is.version != o.Version:
		return other(is.value, is.version, index)
	}
	*p = append(*p, written{o.Key, o.Value, index})
	return done(index, index)
}

func (p plain) keys() []string {
	var l []string
	for _, w := range p {
		if p.of(w.key).version != 0 && !slices.Contains(l, w.key) {
			l = append(l, w.key)
		}
	}
	slices.Sort(l)
	return l
}

// checkIs holds all that a store tells against what was written.
func checkIs(t *testing.T, s *kv.Store, p plain, keys []string, at int) {
	t.Helper()
	checkKeys(t, s, p.keys()...)
	for _, key := range keys {
		want := missing(at)
		if is := p.of(key); is.version != 0 {
			want = read(is.value, is.version, at)
		}
		checkLook(t, s, key, at, want)
	}
}

// twoKeys is operations on two keys, whose versions are those of short rows, and one of a third key that is never there.
func twoKeys() []api.Op {
	l := []api.Op{remove("z")}
	for _, key := range []string{"a", "b"} {
		l = append(l, put(key, "v"), remove(key), get(key))
		for version := range 4 {
			l = append(l, swap(key, "w", version))
		}
	}
	return l
}

// rows goes through all rows of so many operations.
func rows(row, from []api.Op, more int, see func([]api.Op)) {
	if more == 0 {
		see(row)
		return
	}
	for _, o := range from {
		rows(append(row, o), from, more-1, see)
	}
}

// P10.1 to P10.3: all rows of up to four operations.
func TestAllShortRows(t *testing.T) {
	for more := range 5 {
		rows(nil, twoKeys(), more, func(row []api.Op) {
			s, p := made(t), plain{}
			for i, o := range row {
				checkStep(t, s, step{i + 1, o, p.apply(i+1, o)})
			}
			checkIs(t, s, p, []string{"a", "b", "z"}, 7)
		})
	}
}

// P10.4: what is applied to one key makes no difference to another one: of each row, each key's part alone tells and leaves the same.
func TestKeysAreApart(t *testing.T) {
	rows(nil, twoKeys(), 4, func(row []api.Op) {
		both, alone := made(t), map[string]*kv.Store{"a": made(t), "b": made(t), "z": made(t)}
		for i, o := range row {
			checkStep(t, both, step{i + 1, o, alone[o.Key].Apply(i+1, o)})
		}
		for key, s := range alone {
			checkLook(t, both, key, 9, s.Look(key, 9))
		}
	})
}

// picker picks numbers, always the same ones.
func picker() func(n int) int {
	number := uint32(1)
	return func(n int) int {
		number = number*1664525 + 1013904223
		return int(number>>8) % n
	}
}

// picked is an operation on one of these keys; swaps often ask for the version that the key has.
func picked(pick func(int) int, keys []string, p plain) api.Op {
	key, value := keys[pick(len(keys))], text(pick(65))
	switch pick(4) {
	case 0:
		return get(key)
	case 1:
		return put(key, value)
	case 2:
		return remove(key)
	}
	if pick(4) == 0 {
		return swap(key, value, pick(4097))
	}
	return swap(key, value, p.of(key).version)
}

// P10.1 to P10.4: long rows, of few keys and of many; copies go on in a store's place.
func TestLongRows(t *testing.T) {
	pick := picker()
	for _, count := range []int{1, 2, 3, 10, 40} {
		var keys []string
		for n := range count {
			keys = append(keys, text(n%15)+string([]byte{byte(255 - 6*n)}))
		}
		s, p := made(t), plain{}
		for index := 1; index <= 1000; index++ {
			o := picked(pick, keys, p)
			checkStep(t, s, step{index, o, p.apply(index, o)})
			if pick(10) == 0 {
				old := s
				s = s.Copy()
				old.Apply(index, put(keys[pick(count)], "of the old one"))
				old.Apply(index, remove(keys[pick(count)]))
			}
			if index%20 == 0 {
				checkIs(t, s, p, keys, index)
			}
		}
	}
}

// P10.4: a swap with the version that Look told, as the next entry, is done, whether the key is there or not, and whatever became of others between.
func TestSwapWithTheVersionThatWasTold(t *testing.T) {
	pick := picker()
	keys := []string{"a", "b", "c"}
	s := made(t)
	for index := 1; index <= 4096; index++ {
		if index%2 == 1 {
			s.Apply(index, picked(pick, keys, nil))
			continue
		}
		key := keys[pick(3)]
		told := s.Look(key, index-1)
		for _, between := range keys {
			if between != key {
				s.Apply(index, put(between, "w"))
			}
		}
		checkStep(t, s, step{index, swap(key, "v", told.Version), done(index, index)})
		checkLook(t, s, key, index, read("v", index, index))
	}
}

// The rule R2: what was asked ahead decides alone, whatever is asked of others, or only looked at, between.
func TestTheSameStepsAreAnsweredTheSame(t *testing.T) {
	pick := picker()
	keys := []string{"a", "b", "c", "d"}
	a, b, others := made(t), made(t), madeOf(t, put("a", "of another one"))
	for index := 1; index <= 4096; index++ {
		o := picked(pick, keys, nil)
		first := a.Apply(index, o)
		others.Apply(4097-index, put(o.Key, "of another one"))
		a.Look(o.Key, index)
		a.Keys()
		a.Copy().Apply(index, remove(o.Key))
		kv.Same(a, others)
		a.Apply(0, put(o.Key, "never"))
		a.Apply(index, put(o.Key, text(65)))
		if second := b.Apply(index, o); first != second {
			t.Fatalf("Apply(%d, %v) = %v, and %v", index, o, first, second)
		}
	}
	checkSame(t, a, b, true)
}
