package logs_test

import (
	"slices"
	"testing"
	"unsafe"

	"fairway/api"
	"fairway/logs"
)

func checkBegins(t *testing.T, a, b *logs.Log, want bool) {
	t.Helper()
	for range 2 {
		if logs.Begins(a, b) != want {
			t.Fatalf("Begins of %v and %v: %t", a.Entries(), b.Entries(), !want)
		}
	}
}

// P11.4: a copy has the same, and what becomes of one of both makes no difference to the other one.
func TestCopy(t *testing.T) {
	for count := range len(three()) + 1 {
		begin := three()[:count]
		for _, o := range []api.Op{put("k", "x"), put("z", "x"), remove("k"), remove("l"), swap("k", "x", 3), swap("k", "x", 1), swap("z", "x", 0)} {
			e := entry(count+1, 0, 8, o)
			first, second := madeOf(t, begin...), madeOf(t, begin...)
			was := seen(first)
			firstCopy, secondCopy := first.Copy(), second.Copy()
			for _, c := range []*logs.Log{firstCopy, secondCopy} {
				if c == nil || !same(seen(c), was) {
					t.Fatalf("a copy of %v is %v", begin, c.Entries())
				}
			}
			first.Append(e)
			secondCopy.Append(e)
			want := seen(madeOf(t, append(slices.Clone(begin), e)...))
			if !same(seen(first), want) || !same(seen(secondCopy), want) {
				t.Errorf("behind %v stand %v, and %v in the copy", e, first.Entries(), secondCopy.Entries())
			}
			if !same(seen(firstCopy), was) || !same(seen(second), was) {
				t.Errorf("by %v the other one became %v, and %v", e, firstCopy.Entries(), second.Entries())
			}
		}
	}
}

// P11.4: both go on with entries of their own, again and again, as do copies of copies.
func TestCopiesGoOnByThemselves(t *testing.T) {
	for count := range 40 {
		begin := long(count)
		l := madeOf(t, begin...)
		all := []*logs.Log{l, l.Copy(), l.Copy(), l.Copy().Copy()}
		for more := range 20 {
			for n, one := range all {
				e := tail(count, n)[more]
				if _, f := one.Append(e); f != api.OK {
					t.Fatalf("Append(%v): %v", e, f)
				}
			}
		}
		for n, one := range all {
			if !same(seen(one), seen(madeOf(t, append(slices.Clone(begin), tail(count, n)...)...))) {
				t.Fatalf("behind %d the one %d became %v", count, n, one.Entries()[count:])
			}
		}
	}
}

// tail is 20 entries behind so many, each log's own; so is what becomes of them.
func tail(count, n int) []api.Entry {
	all := []api.Entry{entry(count+1, n, 1000*(n+1), put("of all", text(n)))}
	for index := count + 2; index <= count+20; index++ {
		all = append(all, entry(index, n, 1000*(n+1)+index, swap("of all", text(n), 0)))
	}
	return all
}

// P11.4: a log begins itself, a copy of it, one of the same entries, and longer ones; not shorter ones.
func TestBeginsOfLonger(t *testing.T) {
	var all []*logs.Log
	for count := range 8 {
		all = append(all, madeOf(t, long(count)...))
	}
	for i, a := range all {
		for n, b := range all {
			checkBegins(t, a, b, i <= n)
			checkBegins(t, a.Copy(), b, i <= n)
			checkBegins(t, a, b.Copy(), i <= n)
			checkBegins(t, madeOf(t, a.Entries()...), b, i <= n)
		}
	}
	full := madeOf(t, long(4096)...)
	checkBegins(t, full, full, true)
	checkBegins(t, full, full.Copy(), true)
	checkBegins(t, all[7], full, true)
	checkBegins(t, full, all[7], false)
	checkBegins(t, full, madeOf(t, long(4095)...), false)
	checkBegins(t, madeOf(t, long(4095)...), full, true)
}

// P11.4: logs that differ in one entry, the first, a middle or the last one, in one field alone.
func TestBeginsOfOthers(t *testing.T) {
	for field, others := range map[string][2]api.Entry{
		"client":             {entry(0, 0, 90, put("k", "v")), entry(0, 1, 90, put("k", "v"))},
		"seq":                {entry(0, 0, 90, put("k", "v")), entry(0, 0, 91, put("k", "v"))},
		"great seq":          {entry(0, 0, 90, put("k", "v")), entry(0, 0, 1<<32+90, put("k", "v"))},
		"put and swap":       {entry(0, 0, 90, put("new", "v")), entry(0, 0, 90, swap("new", "v", 0))},
		"put and delete":     {entry(0, 0, 90, put("k", "")), entry(0, 0, 90, remove("k"))},
		"swap and delete":    {entry(0, 0, 90, swap("k", "", 0)), entry(0, 0, 90, remove("k"))},
		"key":                {entry(0, 0, 90, put("k", "v")), entry(0, 0, 90, put("l", "v"))},
		"longer key":         {entry(0, 0, 90, put("k", "v")), entry(0, 0, 90, put("k\x00", "v"))},
		"key of none":        {entry(0, 0, 90, remove("n")), entry(0, 0, 90, remove("o"))},
		"value":              {entry(0, 0, 90, put("k", "v")), entry(0, 0, 90, put("k", "w"))},
		"no value":           {entry(0, 0, 90, put("k", "")), entry(0, 0, 90, put("k", "w"))},
		"value of none":      {entry(0, 0, 90, swap("n", "v", 9)), entry(0, 0, 90, swap("n", "w", 9))},
		"version":            {entry(0, 0, 90, swap("k", "v", 0)), entry(0, 0, 90, swap("k", "v", 2))},
		"version of none":    {entry(0, 0, 90, swap("n", "v", 9)), entry(0, 0, 90, swap("n", "v", 8))},
		"the last two bytes": {entry(0, 0, 90, put(text(14)+"ab", "v")), entry(0, 0, 90, put(text(14)+"ba", "v"))},
	} {
		t.Run(field, func(t *testing.T) {
			for place := 1; place <= 5; place++ {
				a, b := madeOf(t, around(others[0], place)...), madeOf(t, around(others[1], place)...)
				checkBegins(t, a, a, true)
				checkBegins(t, b, b, true)
				checkBegins(t, a, b, false)
				checkBegins(t, b, a, false)
				begin := madeOf(t, around(others[0], place)[:place-1]...)
				checkBegins(t, begin, b, true)
				begin = madeOf(t, around(others[0], place)[:place]...)
				checkBegins(t, begin, a, true)
				checkBegins(t, begin, b, false)
			}
		})
	}
}

// around is five entries, with that one at a place, and the later ones of other clients.
func around(e api.Entry, place int) []api.Entry {
	all := long(5)
	for i := range all {
		all[i].Client = 2 + i%4
	}
	e.Index = place
	all[place-1] = e
	return all
}

// P11.4: of logs that are none Begins tells whether both are.
func TestBeginsOfLogsThatAreNone(t *testing.T) {
	for _, a := range none() {
		for _, b := range none() {
			checkBegins(t, a, b, true)
		}
		for _, b := range []*logs.Log{made(t), made(t).Copy(), madeOf(t, three()...)} {
			checkBegins(t, a, b, false)
			checkBegins(t, b, a, false)
		}
	}
}

// The rule R4: whoever handed a text in may use its bytes for something else: they are not looked at later.
func TestTextsAreNotKept(t *testing.T) {
	bytes := []byte("keyvalue")
	whole := unsafe.String(&bytes[0], len(bytes))
	key, value := whole[:3], whole[3:]
	for _, o := range []api.Op{put(key, value), swap(key, value, 0), swap(key, value, 9), remove(key)} {
		copy(bytes, "keyvalue")
		l := made(t)
		e := entry(1, 0, 1, o)
		if _, f := l.Append(e); f != api.OK {
			t.Fatalf("Append(%v): %v", e, f)
		}
		told, _ := l.At(1)
		looked := l.Look(key)
		want := seen(madeOf(t, l.Entries()...))
		text := "key" + o.Value
		copy(bytes, "xxxyyyyy")
		for _, is := range []api.Entry{told, l.Entries()[0]} {
			if is.Op.Key+is.Op.Value != text {
				t.Errorf("what was appended became %v", is)
			}
		}
		if looked != l.Look("key") {
			t.Errorf("what was told became %v", looked)
		}
		if !same(seen(l), want) || l.Look("xxx") != missing(1) {
			t.Errorf("the log became %v", l.Entries())
		}
	}
}
