package frames_test

import (
	"math"
	"slices"
	"strings"
	"testing"

	"fairway/api"
	"fairway/frames"
)

// long is a text of so many bytes, of all kinds.
func long(size int) string {
	b := make([]byte, size)
	for i := range b {
		b[i] = byte(i*37 + 5)
	}
	return string(b)
}

// full is a frame with all fields set, each one to something else that may be.
func full() api.Frame {
	return api.Frame{
		Epoch: 1, Client: 2, Seq: 3, Try: 4, Class: 5, Deadline: 6,
		Op:     api.Op{Kind: api.OpPut, Key: "k", Value: "v"},
		Result: api.Result{Code: api.ReVersion, Value: "r", Version: 7, At: 8},
		Reason: 9,
		Entry:  api.Entry{Index: 10, Client: 11, Seq: 12, Op: api.Op{Kind: api.OpSwap, Key: "l", Value: "w", Version: 13}},
		Chain:  api.Chain{Epoch: 14, Members: []api.Member{{Node: 2, Since: 1}, {Node: 0, Since: 14}}, Drain: 2},
		Index:  16, Grant: 17, Have: 18,
	}
}

// junk is a frame with nothing in it that may be: each number is this one, each text too long, and so is the chain.
func junk(n int) api.Frame {
	var f api.Frame
	for _, name := range allNumbers() {
		*field(&f, name) = n
	}
	for _, name := range allTexts() {
		*text(&f, name) = long(700)
	}
	for range 100 {
		f.Chain.Members = append(f.Chain.Members, api.Member{Node: n, Since: n})
	}
	return f
}

// junks is frames with anything at all in them.
func junks() []api.Frame {
	l := []api.Frame{{}, full(), {Chain: api.Chain{Members: []api.Member{}}}, {Chain: api.Chain{Members: make([]api.Member, 1)}}}
	for _, n := range []int{math.MinInt, -most, -2, -1, 0, 5, 13, most, most + 1, math.MaxInt} {
		l = append(l, junk(n))
	}
	return l
}

// mixed is what a kind has, of one frame, and all else of another one.
func mixed(f, other api.Frame) api.Frame {
	other = own(other)
	other.Kind = f.Kind
	for _, name := range has(f.Kind) {
		*field(&other, name) = *field(&f, name)
	}
	switch behind(f.Kind) {
	case "Op":
		other.Op = f.Op
	case "Result":
		other.Result = f.Result
	case "Entry":
		other.Entry = f.Entry
	case "Chain":
		other.Chain = own(f).Chain
	}
	return other
}

// opsTaken is operations of each kind, at the edges.
func opsTaken() []api.Op {
	return []api.Op{
		{Kind: 1, Key: "k"}, {Kind: 1, Key: long(16)}, {Kind: 2, Key: "k", Value: "v"}, {Kind: 2, Key: "\x00"}, {Kind: 2, Key: long(16), Value: long(64)},
		{Kind: 3, Key: "key"}, {Kind: 3, Key: long(16)}, {Kind: 4, Key: "k", Value: "v"}, {Kind: 4, Key: "k", Version: 1}, {Kind: 4, Key: "k", Version: 247}, {Kind: 4, Key: long(16), Value: long(64), Version: 4096},
	}
}

// opsRefused is operations that may not be, and ones that are too long.
func opsRefused() []api.Op {
	return []api.Op{
		{}, {Key: "k"}, {Kind: -1, Key: "k"}, {Kind: 5, Key: "k"}, {Kind: math.MaxInt, Key: "k"}, {Kind: math.MinInt, Key: "k"}, {Kind: 1<<32 + 1, Key: "k"},
		{Kind: 1}, {Kind: 2, Value: "v"}, {Kind: 3}, {Kind: 4, Version: 1}, {Kind: 1, Key: "k", Value: "v"}, {Kind: 3, Key: "k", Value: "v"},
		{Kind: 1, Key: "k", Version: 1}, {Kind: 2, Key: "k", Version: 1}, {Kind: 3, Key: "k", Version: -1}, {Kind: 4, Key: "k", Version: -1}, {Kind: 4, Key: "k", Version: 4097}, {Kind: 4, Key: "k", Version: math.MaxInt}, {Kind: 4, Key: "k", Version: math.MinInt},
		{Kind: 1, Key: long(17)}, {Kind: 2, Key: long(17), Value: "v"}, {Kind: 3, Key: long(17)}, {Kind: 4, Key: long(17)}, {Kind: 2, Key: "k", Value: long(65)}, {Kind: 4, Key: "k", Value: long(65)},
		{Kind: 1, Key: long(600)}, {Kind: 2, Key: "k", Value: long(600)}, {Kind: 4, Key: long(600), Value: long(600), Version: 4096},
	}
}

// chainsTaken is chains at the edges.
func chainsTaken() []api.Chain {
	l := []api.Chain{
		{Epoch: 3, Members: []api.Member{{Node: 2, Since: 1}, {Node: 0, Since: 3}}, Drain: -1},
		{Epoch: 1, Members: []api.Member{{Node: 0, Since: 1}}, Drain: -1}, {Epoch: 1, Members: []api.Member{{Node: 0, Since: 1}}}, {Epoch: 1, Members: []api.Member{{Node: 5, Since: 1}}, Drain: 5},
		{Epoch: most, Members: []api.Member{{Node: 4, Since: most}}, Drain: -1},
	}
	wide := api.Chain{Epoch: most, Drain: 3}
	for n := range 6 {
		wide.Members = append(wide.Members, api.Member{Node: 5 - n, Since: most - n})
	}
	return append(l, wide)
}

// chainsRefused is chains that may not be.
func chainsRefused() []api.Chain {
	one := []api.Member{{Node: 1, Since: 1}}
	l := []api.Chain{
		{}, {Drain: -1}, {Epoch: 1, Drain: -1}, {Epoch: 1, Members: []api.Member{}, Drain: -1}, {Epoch: 0, Members: one, Drain: -1}, {Epoch: -1, Members: one, Drain: -1}, {Epoch: most + 1, Members: one, Drain: -1}, {Epoch: math.MaxInt, Members: one, Drain: -1}, {Epoch: math.MinInt, Members: one, Drain: -1},
		{Epoch: 1, Members: one, Drain: 0}, {Epoch: 1, Members: one, Drain: -2}, {Epoch: 1, Members: one, Drain: 2}, {Epoch: 1, Members: one, Drain: math.MaxInt},
		{Epoch: 3, Members: []api.Member{{Node: 1, Since: 1}, {Node: 1, Since: 2}}, Drain: -1}, {Epoch: 3, Members: []api.Member{{Node: 6, Since: 1}}, Drain: -1}, {Epoch: 3, Members: []api.Member{{Node: -1, Since: 1}}, Drain: -1},
		{Epoch: 3, Members: []api.Member{{Node: 1, Since: 0}}, Drain: -1}, {Epoch: 3, Members: []api.Member{{Node: 1, Since: 4}}, Drain: -1},
	}
	for _, size := range []int{7, 8, 100, 300} {
		c := api.Chain{Epoch: 3, Drain: -1}
		for n := range size {
			c.Members = append(c.Members, api.Member{Node: n, Since: 1})
		}
		l = append(l, c)
	}
	return l
}

// forKind is frames of a kind that may be, at the edges of all that it has.
func forKind(kind int) []api.Frame {
	f := of(kind, full())
	l := []api.Frame{f, plain(f)}
	least, greatest := plain(f), plain(f)
	for _, name := range checked(kind) {
		*field(&least, name), *field(&greatest, name) = 0, most
		for _, n := range edges() {
			if n >= 0 && n <= most {
				l = append(l, with(f, name, n))
			}
		}
	}
	l = append(l, least, greatest)
	for _, f := range []api.Frame{least, f, greatest} {
		l = append(l, fillings(f)...)
	}
	return l
}

// fillings is the same frame with each of all that may stand behind its numbers.
func fillings(f api.Frame) (l []api.Frame) {
	switch behind(f.Kind) {
	case "Op":
		for _, o := range opsTaken() {
			l = append(l, changed(f, func(f *api.Frame) { f.Op = o }))
		}
	case "Result":
		for _, size := range []int{0, 1, 2, 16, 17, 63, 64} {
			for code := 1; code <= 3; code++ {
				l = append(l, changed(f, func(f *api.Frame) { f.Result.Code, f.Result.Value = code, long(size) }))
			}
		}
	case "Entry":
		for _, o := range opsTaken() {
			l = append(l, changed(f, func(f *api.Frame) { f.Entry.Op = o }))
		}
	case "Chain":
		for _, c := range chainsTaken() {
			l = append(l, changed(f, func(f *api.Frame) { f.Chain = c }))
		}
	}
	return l
}

// taken is frames that may be, of each kind.
func taken() (l []api.Frame) {
	for kind := 1; kind <= kinds; kind++ {
		l = append(l, forKind(kind)...)
	}
	return l
}

// noKinds is numbers that are no frame's kind.
func noKinds() []int {
	l := []int{0, -1, -2, -12, 13, 14, 15, 16, 24, 32, 246, 247, 248, 257, 258, 264, 1<<16 + 1, 1<<32 + 1, 1<<32 + 8, most - 1, most, most + 1, most + 8, 1<<62 + 1, math.MaxInt - 1, math.MaxInt}
	for n := range 14 {
		l = append(l, math.MinInt+n)
	}
	return l
}

// refused is frames that may not be, each by one reason, that lies in what its kind has.
func refused() (l []api.Frame) {
	for _, kind := range noKinds() {
		l = append(l, of(kind, full()), api.Frame{Kind: kind})
	}
	for kind := 1; kind <= kinds; kind++ {
		f := of(kind, full())
		for _, name := range checked(kind) {
			for _, n := range edges() {
				if n < 0 || n > most {
					l = append(l, with(f, name, n), with(plain(f), name, n))
				}
			}
		}
		l = append(l, unfit(f)...)
	}
	return l
}

// unfit is the same frame with each of all that may not stand behind its numbers.
func unfit(f api.Frame) (l []api.Frame) {
	switch behind(f.Kind) {
	case "Op":
		for _, o := range opsRefused() {
			l = append(l, changed(f, func(f *api.Frame) { f.Op = o }))
		}
	case "Result":
		for _, code := range []int{0, -1, -2, 4, 5, 6, 247, 1<<32 + 1, most, most + 1, math.MinInt, math.MinInt + 1, math.MaxInt} {
			l = append(l, with(f, "Code", code))
		}
		for _, size := range []int{65, 66, 128, 247, 248, 511, 512, 513, 600, 1 << 16} {
			l = append(l, withText(f, "ResultValue", long(size)))
		}
	case "Entry":
		for _, o := range opsRefused() {
			l = append(l, changed(f, func(f *api.Frame) { f.Entry.Op = o }))
		}
	case "Chain":
		for _, c := range chainsRefused() {
			l = append(l, changed(f, func(f *api.Frame) { f.Chain = c }))
		}
	}
	return l
}

// P13.1: each kind of a frame that has all fields set.
func TestPlain(t *testing.T) {
	f := full()
	for _, want := range []api.Frame{
		{Kind: api.FrCall, Epoch: 1, Client: 2, Seq: 3, Try: 4, Class: 5, Deadline: 6, Op: f.Op},
		{Kind: api.FrReply, Client: 2, Seq: 3, Try: 4, Result: f.Result},
		{Kind: api.FrRefuse, Epoch: 1, Client: 2, Seq: 3, Try: 4, Reason: 9},
		{Kind: api.FrForward, Epoch: 1, Entry: f.Entry},
		{Kind: api.FrAck, Epoch: 1, Index: 16, Grant: 17, Have: 18},
		{Kind: api.FrBase, Epoch: 1, Index: 16},
		{Kind: api.FrAsk},
		{Kind: api.FrConfig, Chain: f.Chain},
		{Kind: api.FrConfirm, Epoch: 1, Index: 16},
		{Kind: api.FrSure, Epoch: 1, Index: 16},
		{Kind: api.FrAlive, Epoch: 1, Index: 16},
		{Kind: api.FrDrained, Epoch: 1},
	} {
		if g := frames.Plain(of(want.Kind, f)); !same(g, want) {
			t.Errorf("Plain of the kind %d: %+v, not %+v", want.Kind, g, want)
		}
		checkAll(t, of(want.Kind, f))
	}
}

// P13.1: a Kind that is none has itself alone, whatever else there is.
func TestPlainOfNoKind(t *testing.T) {
	for _, kind := range noKinds() {
		for _, f := range junks() {
			f := of(kind, f)
			if g := frames.Plain(f); !same(g, api.Frame{Kind: kind}) {
				t.Fatalf("Plain(%.300v) = %.300v", f, g)
			}
			checkPlain(t, f)
		}
	}
}

// P13.1: a frame need not be one that may be: what its kind has stays as it is.
func TestPlainOfAnything(t *testing.T) {
	all := append(junks(), append(taken(), refused()...)...)
	for _, f := range all {
		checkPlain(t, f)
	}
	for _, f := range junks() {
		for kind := -1; kind <= 14; kind++ {
			checkPlain(t, of(kind, f))
			for _, other := range junks() {
				g := mixed(of(kind, f), other)
				checkPlain(t, g)
				if !same(frames.Plain(g), plain(of(kind, f))) {
					t.Fatalf("Plain(%.300v) = %.300v", g, frames.Plain(g))
				}
			}
		}
	}
}

// P13.1: each field for itself: it is told if the kind has it, and not else.
func TestPlainOfEachField(t *testing.T) {
	for kind := -1; kind <= 14; kind++ {
		told := 0
		for _, name := range allNumbers() {
			for _, n := range []int{1, -1, 77, most + 1, math.MinInt} {
				f := with(api.Frame{Kind: kind}, name, n)
				checkPlain(t, f)
				if name != "Kind" && !same(frames.Plain(f), api.Frame{Kind: kind}) {
					told++
				}
			}
		}
		for _, name := range allTexts() {
			checkPlain(t, withText(api.Frame{Kind: kind}, name, "x"))
			checkPlain(t, withText(api.Frame{Kind: kind}, name, long(700)))
		}
		checkPlain(t, api.Frame{Kind: kind, Chain: api.Chain{Members: []api.Member{{Node: 9, Since: -9}}}})
		numbers := map[string]int{"Op": 2, "Result": 3, "Entry": 5, "Chain": 2}[behind(kind)] + len(has(kind))
		if told != 5*numbers {
			t.Errorf("of the kind %d there was something told %d times, not %d", kind, told, 5*numbers)
		}
	}
}

// P13.2: the chapter's examples, and bytes that are written out.
func TestPutAndGet(t *testing.T) {
	greatest, member := "\xfd\x01\x00\x00\x00\x00\x01", api.Member{Node: 3, Since: most}
	put, swap := api.Op{Kind: api.OpPut, Key: "k", Value: "v"}, api.Op{Kind: api.OpSwap, Key: "key", Value: "", Version: 4096}
	for _, x := range []struct {
		f    api.Frame
		want string
	}{
		{api.Frame{Kind: api.FrAsk}, "\x08"},
		{api.Frame{Kind: api.FrBase, Epoch: 2, Index: 0}, "\x07\x03\x01"},
		{api.Frame{Kind: api.FrReply, Client: 0, Seq: 1, Try: 1, Result: api.Result{Code: api.ReMissing, At: 4}}, "\x03\x01\x02\x02\x03\x00\x01\x05"},
		{api.Frame{Kind: api.FrCall, Epoch: 1, Client: 2, Seq: 3, Try: 4, Class: 5, Deadline: 6, Op: put}, "\x02\x02\x03\x04\x05\x06\x07\x03\x01k\x01v"},
		{api.Frame{Kind: api.FrCall, Op: swap}, "\x02\x01\x01\x01\x01\x01\x01\x05\x03key\x00\xf9\x10\x01"},
		{api.Frame{Kind: api.FrCall, Deadline: most, Op: api.Op{Kind: api.OpGet, Key: "k"}}, "\x02\x01\x01\x01\x01\x01" + greatest + "\x02\x01k"},
		{api.Frame{Kind: api.FrReply, Client: 1, Seq: 2, Try: 3, Result: api.Result{Code: api.ReOK, Value: "v", Version: 5, At: 6}}, "\x03\x02\x03\x04\x02\x01v\x06\x07"},
		{api.Frame{Kind: api.FrReply, Seq: most, Result: api.Result{Code: api.ReVersion, Value: long(64), Version: most, At: 247}}, "\x03\x01" + greatest + "\x01\x04\x40" + long(64) + greatest + "\xf8\xf8"},
		{api.Frame{Kind: api.FrRefuse, Epoch: 1, Client: 2, Seq: 3, Try: 4, Reason: 9}, "\x04\x02\x03\x04\x05\x0a"},
		{api.Frame{Kind: api.FrRefuse}, "\x04\x01\x01\x01\x01\x01"},
		{api.Frame{Kind: api.FrForward, Epoch: 9, Entry: api.Entry{Index: 10, Client: 11, Seq: 12, Op: put}}, "\x05\x0a\x0b\x0c\x0d\x03\x01k\x01v"},
		{api.Frame{Kind: api.FrForward, Entry: api.Entry{Op: api.Op{Kind: api.OpDelete, Key: "ab"}}}, "\x05\x01\x01\x01\x01\x04\x02ab"},
		{api.Frame{Kind: api.FrAck, Epoch: 1, Index: 2, Grant: 3, Have: 4}, "\x06\x02\x03\x04\x05"},
		{api.Frame{Kind: api.FrAck, Epoch: 246, Index: 247, Grant: 254, Have: 255}, "\x06\xf7\xf8\xf8\xf8\xff\xf9\x01\x00"},
		{api.Frame{Kind: api.FrConfig, Chain: api.Chain{Epoch: 3, Members: []api.Member{{Node: 2, Since: 1}, {Node: 0, Since: 3}}, Drain: -1}}, "\x09\x04\x03\x03\x02\x01\x04\x00"},
		{api.Frame{Kind: api.FrConfig, Chain: api.Chain{Epoch: most, Members: []api.Member{member}, Drain: 3}}, "\x09" + greatest + "\x02\x04" + greatest + "\x04"},
		{api.Frame{Kind: api.FrConfirm, Epoch: 1, Index: 2}, "\x0a\x02\x03"},
		{api.Frame{Kind: api.FrSure, Epoch: 1, Index: 2}, "\x0b\x02\x03"},
		{api.Frame{Kind: api.FrAlive, Epoch: 1, Index: most}, "\x0c\x02" + greatest},
		{api.Frame{Kind: api.FrDrained, Epoch: 300}, "\x0d\xf9\x01\x2d"},
	} {
		if s, e := frames.Put(x.f); s != x.want || e != api.OK {
			t.Errorf("Put(%+v) = %q, %d, not %q", x.f, s, e, x.want)
		}
		if f, e := frames.Get(x.want); e != api.OK || !same(f, x.f) {
			t.Errorf("Get(%q) = %+v, %d, not %+v", x.want, f, e, x.f)
		}
		checkAll(t, x.f)
	}
}

// P13.2: each frame that may be has its bytes, each other one ErrArg.
func TestPutAtTheEdges(t *testing.T) {
	for _, f := range taken() {
		if _, e := frames.Put(f); e != api.OK {
			t.Fatalf("Put(%.300v): %d", f, e)
		}
		checkAll(t, f)
	}
	for _, f := range refused() {
		if s, e := frames.Put(f); e != api.ErrArg || s != "" {
			t.Fatalf("Put(%.300v) = %.100q, %d", f, s, e)
		}
		checkAll(t, f)
	}
}

// P13.2: each number of each kind for itself, at each edge, whether the kind has it or not.
func TestPutOfEachNumber(t *testing.T) {
	for kind := -1; kind <= 14; kind++ {
		for _, name := range allNumbers() {
			for _, n := range edges() {
				checkAll(t, with(of(kind, full()), name, n))
			}
		}
		for _, name := range allTexts() {
			for _, size := range []int{0, 1, 2, 15, 16, 17, 63, 64, 65, 66, 247, 248, 600} {
				checkAll(t, withText(of(kind, full()), name, long(size)))
			}
		}
	}
}

// P13.2: each two numbers of a kind, at the edges of what they may be.
func TestPutOfEachTwoNumbers(t *testing.T) {
	values := []int{math.MinInt, -1, 0, 1, most, most + 1, math.MaxInt}
	for kind := 1; kind <= kinds; kind++ {
		l := checked(kind)
		for i, name := range l {
			for _, other := range l[i+1:] {
				for _, n := range values {
					for _, m := range values {
						checkPut(t, with(with(of(kind, full()), name, n), other, m))
					}
				}
			}
		}
	}
}

// P13.2: what a kind does not have may be anything, and makes no difference.
func TestPutOfWhatTheKindDoesNotHave(t *testing.T) {
	for _, f := range taken() {
		want := bytesOf(f)
		for _, other := range junks() {
			g := mixed(f, other)
			if s, e := frames.Put(g); s != want || e != api.OK {
				t.Fatalf("Put(%.300v) = %q, %d, not %q", g, s, e, want)
			}
		}
	}
	for _, f := range refused() {
		for _, other := range junks() {
			g := mixed(f, other)
			if s, e := frames.Put(g); s != "" || e != api.ErrArg {
				t.Fatalf("Put(%.300v) = %q, %d", g, s, e)
			}
		}
	}
}

// P13.2: what may not be is told ahead of what would be too long.
func TestPutOfWhatWouldBeTooLong(t *testing.T) {
	many := make([]api.Member, 600)
	for i := range many {
		many[i] = api.Member{Node: i, Since: 1}
	}
	for _, size := range []int{400, 500, 511, 512, 513, 600, 1 << 20} {
		for _, f := range []api.Frame{
			{Kind: api.FrCall, Op: api.Op{Kind: api.OpGet, Key: long(size)}},
			{Kind: api.FrCall, Op: api.Op{Kind: api.OpPut, Key: "k", Value: long(size)}},
			{Kind: api.FrForward, Entry: api.Entry{Op: api.Op{Kind: api.OpPut, Key: "k", Value: long(size)}}},
			{Kind: api.FrReply, Result: api.Result{Code: api.ReOK, Value: long(size)}},
			{Kind: api.FrConfig, Chain: api.Chain{Epoch: 3, Members: many[:min(size, 600)], Drain: -1}},
			{Kind: api.FrBase, Epoch: -1, Op: api.Op{Kind: api.OpGet, Key: long(size)}},
		} {
			if s, e := frames.Put(f); s != "" || e != api.ErrArg {
				t.Fatalf("Put(%.200v) = %.100q, %d, not ErrArg", f, s, e)
			}
		}
	}
}

// P13.2: the longest frames that may be are of at most MaxFrame bytes: none is too long.
func TestPutOfTheLongest(t *testing.T) {
	longest := 0
	for kind := 1; kind <= kinds; kind++ {
		f := of(kind, full())
		for _, name := range checked(kind) {
			*field(&f, name) = most
		}
		f.Op = api.Op{Kind: api.OpSwap, Key: long(16), Value: long(64), Version: 4096}
		f.Entry.Op, f.Result.Value = f.Op, long(64)
		f.Chain = chainsTaken()[5]
		s, e := frames.Put(f)
		if e != api.OK || s != bytesOf(f) {
			t.Errorf("Put(%+v) = %q, %d", f, s, e)
		}
		longest = max(longest, len(s))
		checkAll(t, f)
	}
	// A call: its kind, six numbers of seven bytes, and an operation of 86 (1, 1 and 16, 1 and 64, and 3).
	if longest != 129 {
		t.Errorf("the longest frame has %d bytes", longest)
	}
}

// spoil makes all members of a frame, and all that stands in memory behind them, other ones.
func spoil(f api.Frame) {
	all := f.Chain.Members[:cap(f.Chain.Members)]
	for i := range all {
		all[i] = api.Member{Node: -77, Since: -77}
	}
}

// roomy is the frame, of members behind which there is room, that is filled.
func roomy(f api.Frame) api.Frame {
	room := make([]api.Member, 8)
	for i := range room {
		room[i] = api.Member{Node: 77, Since: 77}
	}
	l := append(slices.Clone(f.Chain.Members), room...)
	f.Chain.Members = l[:len(f.Chain.Members)]
	return f
}

// checkRoom looks whether a roomy frame, and what stands in memory behind its members, stayed as it was.
func checkRoom(t *testing.T, name string, f, was api.Frame) {
	t.Helper()
	if !same(f, was) {
		t.Fatalf("%s(%.300v): what was handed in is %.300v", name, was, f)
	}
	for _, m := range f.Chain.Members[len(f.Chain.Members):][:8] {
		if m != (api.Member{Node: 77, Since: 77}) {
			t.Fatalf("%s(%.300v): behind its members stands %v", name, was, m)
		}
	}
}

// P13.1 and the rule R4: what was handed in and what was told share nothing.
func TestPlainSharesNothing(t *testing.T) {
	for _, f := range append(taken(), append(refused(), junks()...)...) {
		for _, kind := range []int{f.Kind, api.FrConfig} {
			f := of(kind, f)
			given := roomy(f)
			told, other := frames.Plain(given), frames.Plain(given)
			checkRoom(t, "Plain", given, f)
			spoil(other)
			checkRoom(t, "Plain", given, f)
			if !same(told, plain(f)) {
				t.Fatalf("Plain(%.300v): another answer was changed, and with it %.300v", f, told)
			}
			// Whoever was told it may put members behind its own.
			_ = append(told.Chain.Members, api.Member{Node: 1, Since: 1})
			checkRoom(t, "Plain", given, f)
			spoil(given)
			if !same(told, plain(f)) {
				t.Fatalf("Plain(%.300v): what was handed in was changed, and with it %.300v", f, told)
			}
		}
	}
}

// The rule of new memory: what Plain tells shares no text with what was handed in.
func TestPlainTellsItsOwnTexts(t *testing.T) {
	for kind := 1; kind <= kinds; kind++ {
		f := of(kind, full())
		for _, name := range allTexts() {
			*text(&f, name) = strings.Repeat(name, 3)
		}
		g := frames.Plain(f)
		for _, name := range allTexts() {
			if shares(*text(&g, name), *text(&f, name)) {
				t.Errorf("Plain of the kind %d tells the same %s", kind, name)
			}
		}
	}
}

// The rules R2 and R4: Put looks at what is handed in, and leaves it as it was; it answers the same again.
func TestPutLeavesAllAsItWas(t *testing.T) {
	for _, f := range append(taken(), append(refused(), junks()...)...) {
		given := roomy(f)
		s, e := frames.Put(given)
		checkRoom(t, "Put", given, f)
		kept := strings.Clone(s)
		frames.Put(of(api.FrConfig, full()))
		spoil(given)
		if s != kept {
			t.Fatalf("Put(%.300v): what was handed in was changed, and with it %q", f, s)
		}
		if again, err := frames.Put(roomy(f)); again != s || err != e {
			t.Fatalf("Put(%.300v) = %q, %d, and again %q, %d", f, s, e, again, err)
		}
	}
}
