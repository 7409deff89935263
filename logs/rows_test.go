package logs_test

import (
	"slices"
	"testing"

	"fairway/api"
	"fairway/logs"
)

// plain is what the chapter asks for of a log: what stands there, and what became of it, looked through from its end.
type plain struct {
	entries []api.Entry
	results []api.Result
}

// of is what a key has behind all entries.
func (p plain) of(key string) (value string, version int) {
	for i := len(p.entries) - 1; i >= 0; i-- {
		e := p.entries[i]
		if e.Op.Key != key || p.results[i].Code != 1 {
			continue
		}
		if e.Op.Kind == 3 {
			return "", 0
		}
		return e.Op.Value, e.Index
	}
	return "", 0
}

// last is a client's last Seq, and its Index.
func (p plain) last(client int) (seq, index int) {
	for _, e := range p.entries {
		if e.Client == client {
			seq, index = e.Seq, e.Index
		}
	}
	return seq, index
}

// error is what is wrong with an entry; its operation is one that may be, or reads.
func (p plain) error(e api.Entry) api.Errno {
	seq, _ := p.last(e.Client)
	switch {
	case e.Client < 0, e.Client > 5, e.Seq < 1, e.Op.Kind == 1:
		return api.ErrArg
	case len(p.entries) == 4096:
		return api.ErrFull
	case e.Index != len(p.entries)+1:
		return api.ErrOrder
	case e.Seq <= seq:
		return api.ErrOld
	}
	return api.OK
}

func (p *plain) append(e api.Entry) (api.Result, api.Errno) {
	if f := p.error(e); f != api.OK {
		return api.Result{}, f
	}
	value, version := p.of(e.Op.Key)
	r := done(e.Index, e.Index)
	switch {
	case e.Op.Kind == 3 && version == 0:
		r = missing(e.Index)
	case e.Op.Kind == 3:
		r = done(0, e.Index)
	case e.Op.Kind == 4 && version != e.Op.Version:
		r = other(value, version, e.Index)
	}
	p.entries, p.results = append(p.entries, e), append(p.results, r)
	return r, api.OK
}

// checkStep appends an entry to both.
func checkStep(t *testing.T, l *logs.Log, p *plain, e api.Entry) {
	t.Helper()
	want, wrong := p.append(e)
	if r, f := l.Append(e); r != want || f != wrong {
		t.Fatalf("Append(%v) behind %d = %v, %v, not %v, %v", e, l.Len(), r, f, want, wrong)
	}
}

// checkIs holds all that a log tells against what stands there.
func checkIs(t *testing.T, l *logs.Log, p plain, keys []string) {
	t.Helper()
	checkAll(t, l, p.entries, p.results)
	for client := -1; client <= 6; client++ {
		seq, index := p.last(client)
		checkLast(t, l, client, seq, index)
	}
	for _, key := range keys {
		want := missing(len(p.entries))
		if value, version := p.of(key); version != 0 {
			want = read(value, version, len(p.entries))
		}
		checkLook(t, l, key, want)
	}
}

// rows goes through all rows of so many numbers below a bound.
func rows(row []int, below, more int, see func([]int)) {
	if more == 0 {
		see(row)
		return
	}
	for n := range below {
		rows(append(row, n), below, more-1, see)
	}
}

// P11.1 to P11.3: all rows of up to three entries, most of which may not stand there.
func TestAllShortRows(t *testing.T) {
	var steps []api.Entry
	for index := range 3 {
		for _, client := range []int{0, 5, 6} {
			for seq := range 3 {
				steps = append(steps, entry(index, client, seq, put("k", "v")), entry(index, client, seq, get("k")))
			}
		}
	}
	for more := range 4 {
		rows(nil, len(steps), more, func(row []int) {
			l, p := logs.New(), plain{}
			for _, n := range row {
				e := steps[n]
				// The Index counts from how many there are.
				e.Index += l.Len()
				checkStep(t, l, &p, e)
			}
			if l.Len() != len(p.entries) || !slices.Equal(l.Entries(), p.entries) {
				t.Fatalf("of %v stand there %v, not %v", row, l.Entries(), p.entries)
			}
		})
	}
}

// P11.1 to P11.3: all rows of up to four operations on two keys, by two clients.
func TestAllShortRowsThatAreTaken(t *testing.T) {
	var all []api.Op
	for _, key := range []string{"a", "b"} {
		all = append(all, put(key, "v"), remove(key))
		for version := range 4 {
			all = append(all, swap(key, "w", version))
		}
	}
	for more := range 5 {
		rows(nil, len(all), more, func(row []int) {
			l, p := logs.New(), plain{}
			for i, n := range row {
				checkStep(t, l, &p, entry(i+1, n%2, i+1, all[n]))
			}
			checkIs(t, l, p, []string{"a", "b", "z"})
		})
	}
}

// picker picks numbers, always the same ones.
func picker() func(n int) int {
	number := uint32(1)
	return func(n int) int {
		number = number*1664525 + 1013904223
		return int(number>>8) % n
	}
}

// picked is an entry on one of these keys; it often may stand there, and swaps often ask for the version that the key has.
func picked(pick func(int) int, keys []string, p plain) api.Entry {
	e := entry(len(p.entries)+1, pick(6), 0, put(keys[pick(len(keys))], text(pick(65))))
	seq, _ := p.last(e.Client)
	e.Seq = seq + pick(4)
	switch pick(20) {
	case 0:
		e.Client = 7*pick(2) - 1
	case 1:
		e.Index += pick(3) - 1
	case 2:
		e.Op = get(e.Op.Key)
	case 3, 4, 5, 6:
		e.Op = remove(e.Op.Key)
	case 7, 8:
		e.Op = swap(e.Op.Key, e.Op.Value, pick(4097))
	case 9, 10, 11, 12:
		_, version := p.of(e.Op.Key)
		e.Op = swap(e.Op.Key, e.Op.Value, version)
	}
	return e
}

// P11.1 to P11.5: long rows, of few keys and of many; copies go on in a log's place.
func TestLongRows(t *testing.T) {
	pick := picker()
	for _, count := range []int{1, 2, 3, 10, 40} {
		var keys []string
		for n := range count {
			keys = append(keys, text(n%15)+string([]byte{byte(255 - 6*n)}))
		}
		l, p := made(t), plain{}
		for step := range 1000 {
			before := l.Copy()
			checkStep(t, l, &p, picked(pick, keys, p))
			checkBegins(t, before, l, true)
			checkBegins(t, l, before, before.Len() == l.Len())
			if pick(10) == 0 {
				old := l
				l = l.Copy()
				old.Append(entry(old.Len()+1, 0, 1<<40, put(keys[0], "of the old one")))
			}
			if step%50 == 0 {
				checkIs(t, l, p, keys)
			}
		}
		checkIs(t, l, p, keys)
	}
}

// P11.5: two logs of the same entries have the same results, and the same store, whatever was refused between.
func TestTheSameEntriesLeadToTheSame(t *testing.T) {
	pick := picker()
	keys := []string{"a", "b", "c", "d"}
	a, p := made(t), plain{}
	for range 8000 {
		e := picked(pick, keys, p)
		a.Append(e)
		p.append(e)
	}
	checkIs(t, a, p, keys)
	b := made(t)
	for i, e := range a.Entries() {
		first, _ := a.Result(i + 1)
		if second, f := b.Append(e); second != first || f != api.OK {
			t.Fatalf("Append(%v) = %v, %v, and %v", e, first, second, f)
		}
	}
	if !same(seen(a), seen(b)) {
		t.Error("they became different ones")
	}
	checkBegins(t, a, b, true)
	checkBegins(t, b, a, true)
}

// P11.5: each client's Seqs rise, and the Indices are 1, 2, and so on.
func TestSeqsRise(t *testing.T) {
	pick := picker()
	l := made(t)
	for range 6000 {
		client := pick(8) - 1
		seq, _ := l.Last(client)
		l.Append(entry(pick(3)+l.Len(), client, seq+pick(5)-2, put("k", "v")))
	}
	if l.Len() < 500 {
		t.Fatalf("Len: %d", l.Len())
	}
	last := [6]int{}
	for i, e := range l.Entries() {
		if e.Index != i+1 || e.Seq <= last[e.Client] {
			t.Fatalf("%v stands at %d, behind the Seq %d", e, i+1, last[e.Client])
		}
		last[e.Client] = e.Seq
	}
}

// P11.5: a log begins whatever comes of it.
func TestALogBeginsWhatComesOfIt(t *testing.T) {
	pick := picker()
	keys := []string{"a", "b"}
	l, p := made(t), plain{}
	var were []*logs.Log
	for range 200 {
		were = append(were, l.Copy())
		e := picked(pick, keys, p)
		l.Append(e)
		p.append(e)
	}
	for i, was := range were {
		checkBegins(t, was, l, true)
		for _, later := range were[i:] {
			checkBegins(t, was, later, true)
			checkBegins(t, later, was, later.Len() == was.Len())
		}
	}
}

// The rule R2: what was asked ahead decides alone, whatever is asked of others, or only looked at, between.
func TestTheSameStepsAreAnsweredTheSame(t *testing.T) {
	pick := picker()
	keys := []string{"a", "b", "c"}
	a, b, p, others := made(t), made(t), plain{}, madeOf(t, three()...)
	for step := range 2000 {
		e := picked(pick, keys, p)
		p.append(e)
		first, wrong := a.Append(e)
		others.Append(entry(step+4, e.Client, step+100, e.Op))
		a.Look(e.Op.Key)
		a.Last(e.Client)
		a.At(step)
		a.Result(step)
		clear(a.Entries())
		logs.Begins(a, others)
		a.Copy().Append(entry(a.Len()+1, 0, 1<<40, remove(e.Op.Key)))
		if second, f := b.Append(e); first != second || wrong != f {
			t.Fatalf("Append(%v) = %v, %v, and %v, %v", e, first, wrong, second, f)
		}
	}
	if !same(seen(a), seen(b)) {
		t.Error("they became different ones")
	}
}
