package logs_test

import (
	"math"
	"slices"
	"strings"
	"testing"

	"fairway/api"
	"fairway/logs"
)

// text is a text of so many bytes.
func text(size int) string {
	return strings.Repeat("x", size)
}

func get(key string) api.Op        { return api.Op{Kind: 1, Key: key} }
func put(key, value string) api.Op { return api.Op{Kind: 2, Key: key, Value: value} }
func remove(key string) api.Op     { return api.Op{Kind: 3, Key: key} }
func swap(key, value string, version int) api.Op {
	return api.Op{Kind: 4, Key: key, Value: value, Version: version}
}

func entry(index, client, seq int, o api.Op) api.Entry {
	return api.Entry{Index: index, Client: client, Seq: seq, Op: o}
}

// done is ReOK of what changed something; read is ReOK of what was looked at.
func done(version, at int) api.Result { return api.Result{Code: 1, Version: version, At: at} }
func read(value string, version, at int) api.Result {
	return api.Result{Code: 1, Value: value, Version: version, At: at}
}
func missing(at int) api.Result { return api.Result{Code: 2, At: at} }
func other(value string, version, at int) api.Result {
	return api.Result{Code: 3, Value: value, Version: version, At: at}
}

func made(t *testing.T) *logs.Log {
	t.Helper()
	l := logs.New()
	if l == nil {
		t.Fatal("New tells nil")
	}
	return l
}

// madeOf is a log of these entries.
func madeOf(t *testing.T, all ...api.Entry) *logs.Log {
	t.Helper()
	l := made(t)
	for _, e := range all {
		if _, f := l.Append(e); f != api.OK {
			t.Fatalf("Append(%v): %v", e, f)
		}
	}
	return l
}

// three is entries of two clients.
func three() []api.Entry {
	return []api.Entry{entry(1, 0, 3, put("k", "v")), entry(2, 5, 1, put("l", "")), entry(3, 0, 7, swap("k", "w", 1))}
}

// long is so many entries of all clients.
func long(count int) []api.Entry {
	var all []api.Entry
	for i := 1; i <= count; i++ {
		all = append(all, entry(i, i*5%6, i, put(text(i%16+1), text(i%65))))
	}
	return all
}

// none is logs that are nil, or that New did not make, made anew.
func none() map[string]*logs.Log {
	return map[string]*logs.Log{"nil": nil, "zero": {}, "new": new(logs.Log), "copied": (*logs.Log)(nil).Copy()}
}

// odd is numbers that are neither an index nor a client.
func odd() []int {
	return []int{-1, -2, -5, -6, -4096, 4097, 4098, 8192, 1 << 16, 1<<31 - 1, 1 << 31, 1 << 32, 1<<32 + 1, 1<<32 + 4096, api.MaxNumber, 1<<62 + 1, math.MaxInt - 1, math.MaxInt, math.MinInt, math.MinInt + 1, math.MinInt + 2}
}

// refused is operations that may not be, are too long, or read.
func refused() []api.Op {
	return []api.Op{
		{},
		{Kind: 0, Key: "k"},
		{Kind: -1, Key: "k"},
		{Kind: 5, Key: "k"},
		{Kind: 1<<32 + 2, Key: "k", Value: "w"},
		{Kind: math.MaxInt, Key: "k"},
		{Kind: math.MinInt, Key: "k"},
		get("k"), get("l"), get("never"), get(text(16)),
		get(""), put("", "w"), remove(""), swap("", "w", 0), swap("", "w", 1),
		{Kind: 1, Key: "k", Value: "w"},
		{Kind: 3, Key: "k", Value: "w"},
		{Kind: 1, Key: "k", Version: 1},
		{Kind: 2, Key: "k", Value: "w", Version: 1},
		{Kind: 3, Key: "k", Version: 1},
		swap("k", "w", -1), swap("k", "w", 4097), swap("k", "w", math.MaxInt), swap("k", "w", math.MinInt),
		get(text(17)), put(text(17), "w"), remove(text(17)), swap(text(17), "w", 0),
		put("k", text(65)), swap("k", text(65), 0), swap("k", text(65), 1),
		put(text(1<<20), "w"), put("k", text(1<<20)),
		put(strings.Repeat("ä", 9), "w"), put("k", strings.Repeat("ä", 33)),
	}
}

// checkAppend appends what is taken.
func checkAppend(t *testing.T, l *logs.Log, e api.Entry, want api.Result) {
	t.Helper()
	if r, f := l.Append(e); f != api.OK || r != want {
		t.Fatalf("Append(%v) = %v, %v, not %v", e, r, f, want)
	}
}

// checkRefused appends what is refused, and looks for what it changed.
func checkRefused(t *testing.T, l *logs.Log, e api.Entry, want api.Errno) {
	t.Helper()
	was := seen(l)
	for range 2 {
		if r, f := l.Append(e); f != want || r != (api.Result{}) {
			t.Fatalf("Append(%.100v) behind %d = %v, %v, not %v", e, l.Len(), r, f, want)
		}
	}
	if !same(was, seen(l)) {
		t.Fatalf("Append(%.100v) behind %d: %v, and something was changed", e, l.Len(), want)
	}
}

// sight is all that a log tells.
type sight struct {
	count   int
	entries []api.Entry
	results []api.Result
	last    [6][2]int
	looks   []api.Result
}

// seen asks a log for all that it tells, of each key that stands in it, and of some more.
func seen(l *logs.Log) sight {
	s := sight{count: l.Len(), entries: l.Entries()}
	for i := range s.count {
		r, _ := l.Result(i + 1)
		s.results = append(s.results, r)
	}
	for client := range 6 {
		s.last[client][0], s.last[client][1] = l.Last(client)
	}
	keys := []string{"k", "l", "m", "never", ""}
	for _, e := range s.entries {
		keys = append(keys, e.Op.Key)
	}
	slices.Sort(keys)
	for _, key := range slices.Compact(keys) {
		s.looks = append(s.looks, l.Look(key))
	}
	return s
}

func same(a, b sight) bool {
	return a.count == b.count && slices.Equal(a.entries, b.entries) && slices.Equal(a.results, b.results) && a.last == b.last && slices.Equal(a.looks, b.looks)
}

// checkAll holds Len, At, Result and Entries against what stands in a log.
func checkAll(t *testing.T, l *logs.Log, entries []api.Entry, results []api.Result) {
	t.Helper()
	if n := l.Len(); n != len(entries) {
		t.Fatalf("Len: %d, not %d", n, len(entries))
	}
	if all := l.Entries(); !slices.Equal(all, entries) {
		t.Fatalf("Entries: %v, not %v", all, entries)
	}
	for i, want := range entries {
		if e, ok := l.At(i + 1); !ok || e != want {
			t.Fatalf("At(%d) = %v, %t, not %v", i+1, e, ok, want)
		}
		if r, ok := l.Result(i + 1); !ok || r != results[i] {
			t.Fatalf("Result(%d) = %v, %t, not %v", i+1, r, ok, results[i])
		}
	}
	for _, i := range append(odd(), 0, len(entries)+1, len(entries)+2, -len(entries)) {
		if e, ok := l.At(i); ok || e != (api.Entry{}) {
			t.Fatalf("At(%d) = %v, %t", i, e, ok)
		}
		if r, ok := l.Result(i); ok || r != (api.Result{}) {
			t.Fatalf("Result(%d) = %v, %t", i, r, ok)
		}
	}
}

func checkLast(t *testing.T, l *logs.Log, client, seq, index int) {
	t.Helper()
	for range 2 {
		if s, i := l.Last(client); s != seq || i != index {
			t.Fatalf("Last(%d) = %d, %d, not %d, %d", client, s, i, seq, index)
		}
	}
}

func checkLook(t *testing.T, l *logs.Log, key string, want api.Result) {
	t.Helper()
	for range 2 {
		if r := l.Look(key); r != want {
			t.Fatalf("Look(%.100q) = %v, not %v", key, r, want)
		}
	}
}

// The chapter's examples.
func TestExamples(t *testing.T) {
	l := made(t)
	checkAppend(t, l, entry(1, 0, 3, put("k", "v")), done(1, 1))
	checkRefused(t, l, entry(3, 0, 4, put("k", "v")), api.ErrOrder)
	checkRefused(t, l, entry(3, 0, 3, put("k", "v")), api.ErrOrder)
	checkRefused(t, l, entry(2, 0, 3, put("k", "v")), api.ErrOld)
	checkRefused(t, l, entry(2, 1, 1, get("k")), api.ErrArg)
	checkLast(t, l, 0, 3, 1)
	checkLook(t, l, "k", read("v", 1, 1))
}

// P11.1 to P11.3: a new log has nothing, also when others have something.
func TestNew(t *testing.T) {
	a, b := made(t), made(t)
	checkAll(t, a, nil, nil)
	checkAppend(t, a, entry(1, 2, 9, put("k", "v")), done(1, 1))
	for _, l := range []*logs.Log{b, made(t)} {
		checkAll(t, l, nil, nil)
		checkLast(t, l, 2, 0, 0)
		checkLook(t, l, "k", missing(0))
	}
	checkAppend(t, b, entry(1, 2, 9, remove("k")), missing(1))
	checkLook(t, a, "k", read("v", 1, 1))
}

// P11.1: each kind of operation that changes something, and what becomes of it.
func TestAppend(t *testing.T) {
	l := made(t)
	var entries []api.Entry
	var results []api.Result
	for i, x := range []struct {
		o    api.Op
		want api.Result
	}{
		{remove("k"), missing(1)},
		{swap("k", "v", 1), other("", 0, 2)},
		{swap("k", "v", 0), done(3, 3)},
		{swap("k", "w", 0), other("v", 3, 4)},
		{swap("k", "w", 2), other("v", 3, 5)},
		{swap("k", "w", 4096), other("v", 3, 6)},
		{swap("k", "w", 3), done(7, 7)},
		{put("k", ""), done(8, 8)},
		{put("k", ""), done(9, 9)},
		{put(text(16), text(64)), done(10, 10)},
		{swap(text(16), text(64), 1), other(text(64), 10, 11)},
		{remove("k"), done(0, 12)},
		{remove("k"), missing(13)},
		{put("k", "\x00\xff"), done(14, 14)},
		{swap("k", "v", 0), other("\x00\xff", 14, 15)},
		{put("\xff", "v"), done(16, 16)},
	} {
		e := entry(i+1, i%6, i/6+1, x.o)
		checkAppend(t, l, e, x.want)
		entries, results = append(entries, e), append(results, x.want)
		checkAll(t, l, entries, results)
		checkLast(t, l, i%6, i/6+1, i+1)
	}
	checkLook(t, l, "k", read("\x00\xff", 14, 16))
	checkLook(t, l, text(16), read(text(64), 10, 16))
	checkLook(t, l, "\xff", read("v", 16, 16))
}

// P11.1: a client that may not be.
func TestAppendOfClients(t *testing.T) {
	for _, begin := range [][]api.Entry{nil, three()} {
		l := madeOf(t, begin...)
		for _, client := range append(odd(), 6, 7, 15, 16, 32, 256, 1<<32+5) {
			checkRefused(t, l, entry(l.Len()+1, client, 10, put("k", "v")), api.ErrArg)
		}
		for client := range 6 {
			next := l.Len() + 1
			checkAppend(t, l, entry(next, client, 10, put("k", "v")), done(next, next))
			checkLast(t, l, client, 10, next)
		}
	}
}

// P11.1: a Seq that may not be, and one that is not above the client's last one.
func TestAppendOfSeqs(t *testing.T) {
	for _, last := range []int{1, 2, 7, 4096, 1 << 31, 1 << 32, api.MaxNumber, api.MaxNumber + 1, 1 << 62, math.MaxInt - 1, math.MaxInt} {
		l := made(t)
		for _, seq := range []int{0, -1, -2, -last, math.MinInt, math.MinInt + 1, math.MinInt + 2} {
			checkRefused(t, l, entry(1, 4, seq, put("k", "v")), api.ErrArg)
		}
		checkAppend(t, l, entry(1, 4, last, put("k", "v")), done(1, 1))
		for _, seq := range []int{0, -1, -last, math.MinInt, math.MinInt + 1} {
			checkRefused(t, l, entry(2, 4, seq, put("k", "v")), api.ErrArg)
		}
		for _, seq := range []int{1, last - 1, last/2 + 1, last} {
			if seq > 0 {
				checkRefused(t, l, entry(2, 4, seq, put("k", "v")), api.ErrOld)
			}
		}
		checkAppend(t, l, entry(2, 3, 1, put("k", "v")), done(2, 2))
		if last < math.MaxInt {
			checkAppend(t, l, entry(3, 4, last+1, put("k", "v")), done(3, 3))
			checkRefused(t, l, entry(4, 4, last+1, put("k", "v")), api.ErrOld)
			checkRefused(t, l, entry(4, 4, last, put("k", "v")), api.ErrOld)
		}
		next := l.Len() + 1
		checkAppend(t, l, entry(next, 3, math.MaxInt, put("k", "v")), done(next, next))
		checkRefused(t, l, entry(next+1, 3, math.MaxInt, put("k", "v")), api.ErrOld)
		checkRefused(t, l, entry(next+1, 3, 2, put("k", "v")), api.ErrOld)
	}
}

// P11.1: a Seq is held against that of the same client alone.
func TestAppendOfSeqsOfOtherClients(t *testing.T) {
	l := made(t)
	for client := range 6 {
		checkAppend(t, l, entry(client+1, client, 6-client, put("k", "v")), done(client+1, client+1))
	}
	for client := range 6 {
		for seq := 1; seq <= 6-client; seq++ {
			checkRefused(t, l, entry(7+client, client, seq, put("k", "v")), api.ErrOld)
		}
		checkAppend(t, l, entry(7+client, client, 7-client, put("k", "v")), done(7+client, 7+client))
	}
}

// P11.1: an Index that is not the next one.
func TestAppendOfIndices(t *testing.T) {
	for _, count := range []int{0, 1, 2, 7, 4095} {
		l := madeOf(t, long(count)...)
		for _, index := range append(odd(), 0, count-1, count, count+2, count+3, -count, -count-1, 1<<32+count+1) {
			if index != count+1 {
				checkRefused(t, l, entry(index, 3, 5000, put("k", "v")), api.ErrOrder)
			}
		}
		checkAppend(t, l, entry(count+1, 3, 5000, put("k", "v")), done(count+1, count+1))
	}
}

// P11.1: operations that ops.Check refuses, and ones that read.
func TestAppendOfOperationsThatAreRefused(t *testing.T) {
	for _, begin := range [][]api.Entry{nil, three()} {
		l := madeOf(t, begin...)
		for _, o := range refused() {
			checkRefused(t, l, entry(l.Len()+1, 1, 1, o), api.ErrArg)
		}
		next := l.Len() + 1
		checkAppend(t, l, entry(next, 1, 1, put("m", "v")), done(next, next))
	}
}

// P11.1: 4096 entries, and no more.
func TestAppendToOneThatIsFull(t *testing.T) {
	l := madeOf(t, long(4095)...)
	checkRefused(t, l, entry(4097, 0, 5000, put("k", "v")), api.ErrOrder)
	checkAppend(t, l, entry(4096, 0, 5000, put("k", "last")), done(4096, 4096))
	for _, full := range []*logs.Log{l, l.Copy()} {
		for _, index := range append(odd(), 0, 1, 4095, 4096) {
			checkRefused(t, full, entry(index, 0, 5001, put("k", "v")), api.ErrFull)
			checkRefused(t, full, entry(index, 0, 5000, remove("k")), api.ErrFull)
			checkRefused(t, full, entry(index, 0, 0, remove("k")), api.ErrArg)
		}
		checkRefused(t, full, entry(4097, 0, 5001, get("k")), api.ErrArg)
		checkLast(t, full, 0, 5000, 4096)
		checkLook(t, full, "k", read("last", 4096, 4096))
		if e, ok := full.At(4096); !ok || e != entry(4096, 0, 5000, put("k", "last")) {
			t.Errorf("At(4096) = %v, %t", e, ok)
		}
		if r, ok := full.Result(4096); !ok || r != done(4096, 4096) {
			t.Errorf("Result(4096) = %v, %t", r, ok)
		}
	}
}

// wrongs is what makes an entry of the client 0 one that may not be, in one way or in two.
func wrongs() map[string]func(e *api.Entry) {
	return map[string]func(e *api.Entry){
		"client above":    func(e *api.Entry) { e.Client = 6 },
		"client below":    func(e *api.Entry) { e.Client = -1 },
		"seq 0":           func(e *api.Entry) { e.Seq = 0 },
		"seq below":       func(e *api.Entry) { e.Seq = -1 },
		"no operation":    func(e *api.Entry) { e.Op = api.Op{} },
		"too long":        func(e *api.Entry) { e.Op.Value = text(65) },
		"read":            func(e *api.Entry) { e.Op = get("k") },
		"client and seq":  func(e *api.Entry) { e.Client, e.Seq = 7, 0 },
		"client and read": func(e *api.Entry) { e.Client, e.Op = math.MaxInt, get("k") },
		"seq and long":    func(e *api.Entry) { e.Seq, e.Op.Key = math.MinInt, text(17) },
	}
}

// P11.1 and the rule R5: of several reasons the one that the chapter names first.
func TestAppendOfSeveralReasons(t *testing.T) {
	short, full := madeOf(t, long(20)...), madeOf(t, long(4096)...)
	for reasons := range 8 {
		l, next := short, 21
		if reasons&1 != 0 {
			l, next = full, 4097
		}
		e := entry(next, 0, 9999, put("k", "v"))
		if reasons&2 != 0 {
			e.Index = 20
		}
		if reasons&4 != 0 {
			e.Seq, _ = l.Last(0)
		}
		want := api.OK
		switch {
		case reasons&1 != 0:
			want = api.ErrFull
		case reasons&2 != 0:
			want = api.ErrOrder
		case reasons&4 != 0:
			want = api.ErrOld
		}
		for name, wrong := range wrongs() {
			bad := e
			wrong(&bad)
			t.Run(name, func(t *testing.T) {
				checkRefused(t, l, bad, api.ErrArg)
			})
			for _, n := range none() {
				checkRefused(t, n, bad, api.ErrNil)
			}
		}
		for _, n := range none() {
			checkRefused(t, n, e, api.ErrNil)
		}
		if want != api.OK {
			checkRefused(t, l, e, want)
			continue
		}
		checkAppend(t, l.Copy(), e, done(21, 21))
	}
}

// P11.1: a Seq that is too old for one that may not be, and an Index that is the next one of no log.
func TestAppendBehindNothingOfSeveralReasons(t *testing.T) {
	l := made(t)
	checkRefused(t, l, api.Entry{}, api.ErrArg)
	checkRefused(t, l, entry(1, 0, 0, put("k", "v")), api.ErrArg)
	checkRefused(t, l, entry(0, 0, 0, put("k", "v")), api.ErrArg)
	checkRefused(t, l, entry(0, 0, 1, put("k", "v")), api.ErrOrder)
	checkRefused(t, l, entry(2, 0, 1, put("k", "v")), api.ErrOrder)
	checkRefused(t, l, entry(math.MinInt, math.MinInt, math.MinInt, api.Op{Kind: math.MinInt, Version: math.MinInt}), api.ErrArg)
	checkRefused(t, l, entry(math.MaxInt, math.MaxInt, math.MaxInt, api.Op{Kind: math.MaxInt, Version: math.MaxInt}), api.ErrArg)
	checkAppend(t, l, entry(1, 0, 1, put("k", "v")), done(1, 1))
}

// P11.2: of logs without entries, with one, and with many.
func TestAllThatStandsThere(t *testing.T) {
	for _, count := range []int{0, 1, 2, 3, 100, 4096} {
		entries := long(count)
		var results []api.Result
		for i := range entries {
			results = append(results, done(i+1, i+1))
		}
		l := madeOf(t, entries...)
		checkAll(t, l, entries, results)
		checkAll(t, l.Copy(), entries, results)
	}
}

// P11.2 and the rule R4: the list that is told is the caller's own.
func TestEntriesAreToldAnew(t *testing.T) {
	l := madeOf(t, three()...)
	was := seen(l)
	first, second := l.Entries(), l.Entries()
	clear(first)
	_ = append(first[:1], entry(9, 9, 9, put("z", "z")))
	_ = append(first, entry(4, 1, 1, put("z", "z")))
	if !slices.Equal(second, three()) {
		t.Errorf("another list became %v", second)
	}
	if !same(was, seen(l)) {
		t.Errorf("the log became %v", l.Entries())
	}
	checkAppend(t, l, entry(4, 2, 1, put("m", "v")), done(4, 4))
	_ = append(second, entry(5, 2, 2, put("z", "z")))
	checkAppend(t, l, entry(5, 2, 2, remove("m")), done(0, 5))
	if !slices.Equal(second, three()) {
		t.Errorf("a list that was told became %v", second)
	}
	if !slices.Equal(l.Entries()[:3], three()) || l.Entries()[4] != entry(5, 2, 2, remove("m")) {
		t.Errorf("the log became %v", l.Entries())
	}
}

// P11.3: of clients that have one, that have none, and that may not be.
func TestLast(t *testing.T) {
	l := made(t)
	want := [6][2]int{}
	for i, client := range []int{3, 3, 0, 5, 0, 3, 5, 5, 1} {
		for c, last := range want {
			checkLast(t, l, c, last[0], last[1])
		}
		for _, c := range append(odd(), 6, 7, 256, 1<<32+3) {
			checkLast(t, l, c, 0, 0)
		}
		checkAppend(t, l, entry(i+1, client, 10*i+5, put("k", "v")), done(i+1, i+1))
		want[client] = [2]int{10*i + 5, i + 1}
	}
	checkLast(t, l, 0, 45, 5)
	checkLast(t, l, 1, 85, 9)
	checkLast(t, l, 2, 0, 0)
	checkLast(t, l, 3, 55, 6)
	checkLast(t, l, 4, 0, 0)
	checkLast(t, l, 5, 75, 8)
}

// P11.3: a call that changed nothing is its client's last one all the same.
func TestLastOfWhatChangedNothing(t *testing.T) {
	l := made(t)
	checkAppend(t, l, entry(1, 0, 1, remove("k")), missing(1))
	checkLast(t, l, 0, 1, 1)
	checkAppend(t, l, entry(2, 0, 2, swap("k", "v", 9)), other("", 0, 2))
	checkLast(t, l, 0, 2, 2)
	checkRefused(t, l, entry(3, 0, 2, swap("k", "v", 9)), api.ErrOld)
}

// P11.3: of keys that were put, swapped, taken out, and that never were; At is how many entries there are.
func TestLook(t *testing.T) {
	l := made(t)
	for i, x := range []struct {
		o    api.Op
		want api.Result
	}{
		{put("l", "v"), missing(1)},
		{put("k", "a"), read("a", 2, 2)},
		{put("l", "w"), read("a", 2, 3)},
		{swap("k", "b", 1), read("a", 2, 4)},
		{swap("k", "b", 2), read("b", 5, 5)},
		{put("k", ""), read("", 6, 6)},
		{remove("l"), read("", 6, 7)},
		{remove("k"), missing(8)},
		{remove("k"), missing(9)},
		{swap("k", "c", 6), missing(10)},
		{swap("k", "c", 0), read("c", 11, 11)},
		{put("k", text(64)), read(text(64), 12, 12)},
		{put("kk", "v"), read(text(64), 12, 13)},
	} {
		if _, f := l.Append(entry(i+1, 0, i+1, x.o)); f != api.OK {
			t.Fatalf("Append %d: %v", i+1, f)
		}
		checkLook(t, l, "k", x.want)
		for _, never := range []string{"", "never", "K", "kkk", "k\x00", "\x00", text(16), text(17), text(1 << 20)} {
			checkLook(t, l, never, missing(i+1))
		}
	}
}

// Of logs that are none the chapter says what is told; nothing that is asked makes one of them.
func TestLogsThatAreNone(t *testing.T) {
	for name, l := range none() {
		t.Run(name, func(t *testing.T) {
			for range 2 {
				for _, n := range append(odd(), 0, 1, 2, 4096) {
					checkRefused(t, l, entry(n, 0, 1, put("k", "v")), api.ErrNil)
					checkRefused(t, l, entry(1, n, 1, put("k", "v")), api.ErrNil)
					checkRefused(t, l, entry(1, 0, n, put("k", "v")), api.ErrNil)
					checkLast(t, l, n, 0, 0)
				}
				for _, o := range append(refused(), put("k", "v"), remove("k"), swap("k", "v", 0)) {
					checkRefused(t, l, entry(1, 0, 1, o), api.ErrNil)
				}
				for client := range 7 {
					checkLast(t, l, client, 0, 0)
				}
				checkAll(t, l, nil, nil)
				for _, key := range []string{"", "k", "never", text(16), text(17)} {
					checkLook(t, l, key, api.Result{})
				}
				if c := l.Copy(); c != nil {
					t.Errorf("Copy: %v", c)
				}
			}
		})
	}
}
