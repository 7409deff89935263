package frames_test

import (
	"math"
	"strings"
	"testing"

	"fairway/api"
	"fairway/frames"
)

// letter is that byte as a text.
func letter(b int) string {
	return string([]byte{byte(b)})
}

// P13.3 and P13.5: what is put is got, as Plain, and put again as the same bytes; other plain frames have other ones.
func TestWhatIsPutIsGot(t *testing.T) {
	byBytes, got := map[string]api.Frame{}, map[int]int{}
	for _, f := range taken() {
		s, e := frames.Put(f)
		g, err := frames.Get(s)
		if e != api.OK || err != api.OK || !same(g, plain(f)) || !frames.Same(g, frames.Plain(f)) {
			t.Fatalf("Put(%.300v) = %q, %d, and got: %.300v, %d", f, s, e, g, err)
		}
		if again, e := frames.Put(g); e != api.OK || again != s {
			t.Fatalf("Put(%.300v) = %q, %d, and of what was got %q", f, s, e, again)
		}
		if other, there := byBytes[s]; there && !same(plain(f), plain(other)) {
			t.Fatalf("%.300v and %.300v have the same bytes", f, other)
		}
		byBytes[s] = f
		got[g.Kind]++
	}
	for kind := 1; kind <= kinds; kind++ {
		if got[kind] == 0 {
			t.Errorf("none of the kind %d was got", kind)
		}
	}
}

// P13.3: of a frame that may not be nothing is got.
func TestGetOfWhatMayNotBe(t *testing.T) {
	none := 0
	for _, f := range refused() {
		// What an operation of a kind does not have has no bytes: these are another frame's.
		if checkGet(t, bytesOf(f)) {
			continue
		}
		checkForm(t, bytesOf(f))
		none++
	}
	if none < len(refused())*9/10 {
		t.Errorf("of %d nothing was got, of %d", none, len(refused()))
	}
}

// P13.3 and P13.5: of what is cut off nothing is got, nor of what has something behind it.
func TestGetOfWhatIsCutOffOrGoesOn(t *testing.T) {
	for _, f := range taken() {
		s := bytesOf(f)
		for size := range len(s) {
			checkForm(t, s[:size])
		}
		for _, rest := range []string{s, s[1:] + "\x00", "\x00\x00", "\x03\x02", "\xf8\xf8", strings.Repeat("\x00", 511), strings.Repeat("\x00", 512-len(s)), strings.Repeat("\x01", 1<<10)} {
			checkForm(t, s+rest)
		}
		for b := range 256 {
			checkForm(t, s+letter(b))
		}
	}
}

// P13.3: what stands ahead of a frame's bytes is no part of them.
func TestGetOfWhatHasSomethingAhead(t *testing.T) {
	for _, f := range taken() {
		s := bytesOf(f)
		for b := range 15 {
			checkGet(t, letter(b)+s)
		}
		for size := range len(s) {
			checkGet(t, s[size:])
		}
	}
}

// P13.3: bytes with another kind's byte ahead.
func TestGetOfBytesOfAnotherKind(t *testing.T) {
	got := 0
	for _, f := range shortOnes() {
		s := bytesOf(f)
		for b := range 256 {
			other := letter(b) + s[1:]
			if checkGet(t, other) && b != f.Kind+1 {
				got++
			}
			if b < 2 || b > 13 {
				checkForm(t, other)
			}
		}
	}
	// A base's bytes are a confirmation's, too, but for the first one.
	if got == 0 {
		t.Error("none was got")
	}
}

// shortOnes is frames of each kind with few bytes.
func shortOnes() (l []api.Frame) {
	for kind := 1; kind <= kinds; kind++ {
		l = append(l, of(kind, full()))
	}
	f := full()
	f.Op = api.Op{Kind: api.OpGet, Key: "\x01\x02"}
	f.Result = api.Result{Code: api.ReMissing, At: 4}
	f.Entry.Op = api.Op{Kind: api.OpDelete, Key: "k"}
	f.Chain = chainsTaken()[2]
	f.Epoch, f.Index, f.Seq = 300, 247, 0
	l = append(l, of(1, f), of(2, f), of(4, f), of(5, f), of(8, f), of(12, f))
	f.Op = api.Op{Kind: api.OpSwap, Key: "k", Value: "\x01\x02", Version: 250}
	f.Result = api.Result{Code: api.ReOK, Value: "\x01\x01\x02", Version: most, At: 255}
	f.Chain = chainsTaken()[5]
	return append(l, of(1, f), of(2, f), of(8, f))
}

// P13.3: each byte another one, one put in, one taken out.
func TestGetOfWhatIsNearOne(t *testing.T) {
	got := map[int]int{}
	see := func(s string) {
		if checkGet(t, s) {
			got[int(s[0])-1]++
		}
	}
	for _, f := range shortOnes() {
		s := bytesOf(f)
		for i := range len(s) {
			see(s[:i] + s[i+1:])
			for b := range 256 {
				see(s[:i] + letter(b) + s[i:])
				see(s[:i] + letter(b) + s[i+1:])
			}
		}
	}
	for kind := 1; kind <= kinds; kind++ {
		if got[kind] == 0 {
			t.Errorf("none of the kind %d was got", kind)
		}
	}
}

// longer is a number's bytes in more of them than it takes.
func longer(n uint64) []string {
	var l []string
	for size := 1; size <= 8; size++ {
		b := make([]byte, size+1)
		b[0] = byte(247 + size)
		for i, rest := size, n; i > 0; i, rest = i-1, rest/256 {
			b[i] = byte(rest)
		}
		if s := string(b); len(s) > len(number(n)) {
			l = append(l, s)
		}
	}
	return l
}

// P13.3: each number, the lengths and counts among them, in more bytes than it takes.
func TestGetOfNumbersInMoreBytes(t *testing.T) {
	for _, f := range shortOnes() {
		l := pieces(f)
		for i, p := range l {
			if p.isText {
				continue
			}
			for _, s := range longer(p.n) {
				checkForm(t, joined(l[:i])+s+joined(l[i+1:]))
			}
		}
	}
}

// P13.3: each number, the lengths and counts among them, another one: negative ones and great ones, too.
func TestGetOfOtherNumbers(t *testing.T) {
	got := 0
	for _, f := range shortOnes() {
		l := pieces(f)
		for i, p := range l {
			if p.isText {
				continue
			}
			values := []uint64{p.n - 1, p.n + 1, p.n + 2, p.n + 256, p.n + 1<<32, p.n + 1<<62, p.n + 1<<63, math.MaxUint64, math.MaxUint64 - 1, 1 << 63, 1<<63 - 1, most + 3, most + 2, most + 1, most, 511, 512, 513}
			for n := range uint64(20) {
				values = append(values, n)
			}
			for _, n := range values {
				s := joined(l[:i]) + number(n) + joined(l[i+1:])
				if n > most+1 {
					checkForm(t, s)
				}
				if checkGet(t, s) {
					got++
				}
				// Bytes that end there, and ones that go on as far as they may.
				checkGet(t, joined(l[:i])+number(n))
				checkGet(t, s+strings.Repeat("\x02", max(0, 512-len(s))))
			}
		}
	}
	if got == 0 {
		t.Error("none was got")
	}
}

// P13.3: numbers that a kind has are from 0 on: -1 has bytes, too, and is none of them.
func TestGetOfLessThanNothing(t *testing.T) {
	for kind := 1; kind <= kinds; kind++ {
		for _, name := range checked(kind) {
			f := with(of(kind, full()), name, -1)
			checkForm(t, bytesOf(f))
			if !strings.Contains(bytesOf(f), "\x00") {
				t.Fatalf("%q: of %s, that is -1", bytesOf(f), name)
			}
		}
	}
}

// P13.3: bytes that are none.
func TestGetOfWhatIsNone(t *testing.T) {
	for _, s := range []string{
		"", "\x00", "\x01", "\x02", "\x0d", "\x0e", "\xff", "\xf8", "\xf8\x05", "\xf8\x08", "\xf9\x00\x08", "k", "\x08\x00", "\x08\x08", "\x00\x08", "\x01\x08",
		"\x07\x03", "\x07\x03\x00", "\x07\x00\x01", "\x07\x03\x01\x01", "\x0d\x00", "\x0d\x02\x02", "\x09\x04", "\x09\x04\x01\x00",
		// A result of no code, of one that is none, and with a value that is too long.
		"\x03\x01\x02\x02\x01\x00\x01\x05", "\x03\x01\x02\x02\x00\x00\x01\x05", "\x03\x01\x02\x02\x05\x00\x01\x05", "\x03\x01\x02\x02\x02\x00\x00\x05", "\x03\x01\x02\x02\x02\x00\x01\x00", "\x03\x01\x02\x02\x02\x41" + long(65) + "\x01\x05", "\x03\x01\x02\x02\x02\x02\x01\x05",
		// A call and an entry with an operation that may not be.
		"\x02\x02\x03\x04\x05\x06\x07", "\x02\x02\x03\x04\x05\x06\x07\x02\x00", "\x02\x02\x03\x04\x05\x06\x07\x01\x01k", "\x02\x02\x03\x04\x05\x06\x07\x06\x01k", "\x02\x02\x03\x04\x05\x06\x07\x02\x01k\x01v", "\x02\x02\x03\x04\x05\x06\x07\x02\x11" + long(17),
		"\x05\x02\x0b\x0c\x0d", "\x05\x02\x0b\x0c\x0d\x02\x00", "\x05\x02\x0b\x0c\x0d\x03\x01k\x41" + long(65), "\x05\x02\x0b\x0c\x00\x03\x01k\x01v",
		// A chain that may not be.
		"\x09\x01\x02\x01\x02\x00", "\x09\x02\x01\x00", "\x09\x02\x02\x01\x02\x02", "\x09\x02\x03\x01\x02\x01\x02\x00", "\x09\x02\x02\x07\x02\x00",
		// Much of it.
		strings.Repeat("\x08", 511), strings.Repeat("\x08", 512), strings.Repeat("\x08", 513), long(511), long(512), long(513), "\x08" + strings.Repeat("\x00", 511),
		strings.Repeat("\x00", 1<<20), strings.Repeat("\x02", 1<<20), strings.Repeat("\xff", 1<<20), "\x03\x01\x02\x02\x02\xfa\x10\x00\x00" + long(1<<20),
	} {
		checkForm(t, s)
	}
}

// P13.3: bytes of each length around MaxFrame, that spell what would be a frame, if texts might be longer.
func TestGetOfWhatWouldBeTooLong(t *testing.T) {
	for size := 400; size < 600; size++ {
		for _, f := range []api.Frame{
			{Kind: api.FrCall, Op: api.Op{Kind: api.OpGet, Key: long(size)}},
			{Kind: api.FrCall, Op: api.Op{Kind: api.OpPut, Key: "k", Value: long(size)}},
			{Kind: api.FrForward, Entry: api.Entry{Op: api.Op{Kind: api.OpSwap, Key: "k", Value: long(size)}}},
			{Kind: api.FrReply, Result: api.Result{Code: api.ReOK, Value: long(size)}},
		} {
			checkForm(t, bytesOf(f))
		}
		c := api.Chain{Epoch: 3, Drain: -1}
		for n := range size / 2 {
			c.Members = append(c.Members, api.Member{Node: n, Since: 1})
		}
		checkForm(t, bytesOf(api.Frame{Kind: api.FrConfig, Chain: c}))
	}
}

// allTold tells all texts of these letters of up to so many bytes.
func allTold(letters string, size int, see func(s string)) {
	b := make([]byte, 0, size)
	var fill func()
	fill = func() {
		see(string(b))
		if len(b) == size {
			return
		}
		for i := range len(letters) {
			b = append(b, letters[i])
			fill()
			b = b[:len(b)-1]
		}
	}
	fill()
}

// P13.3: all short bytes: each frame that has them is got, and nothing else is.
func TestGetOfAllShortBytes(t *testing.T) {
	got := map[int]int{}
	see := func(s string) {
		if checkGet(t, s) {
			got[int(s[0])-1]++
		}
	}
	for a := range 256 {
		see(letter(a))
		for b := range 256 {
			see(letter(a) + letter(b))
		}
	}
	for kind := range 15 {
		allTold("\x00\x01\x02\x05\xf7\xf8\xfd", 4, func(s string) { see(letter(kind) + s) })
	}
	// Behind what a call, a reply, a refusal, an entry and a chain begin with.
	allTold("\x00\x01\x02\x05\xf8", 4, func(s string) { see("\x02\x01\x01\x01\x01\x01\x01" + s) })
	allTold("\x00\x01\x02\x04\x05\x41\xf8", 5, func(s string) { see("\x03\x01\x01\x01" + s) })
	allTold("\x00\x01\x02\xf8", 6, func(s string) { see("\x04" + s) })
	allTold("\x00\x01\x02\x05\xf8", 5, func(s string) { see("\x05\x01\x01" + s) })
	allTold("\x00\x01\x02\x03\xf8", 5, func(s string) { see("\x09" + s) })
	for kind := 1; kind <= kinds; kind++ {
		if got[kind] == 0 {
			t.Errorf("none of the kind %d was got", kind)
		}
	}
}

// P13.3 and the rules R1 and R2: bytes without a plan, many of which begin as a frame's.
func TestGetOfAnyBytes(t *testing.T) {
	pick := picker()
	got := 0
	for range 200000 {
		b := make([]byte, pick(14))
		for i := range b {
			b[i] = byte(pick(256))
			if pick(4) > 0 {
				b[i] = byte(1 + pick(6))
			}
			if i == 0 && pick(4) > 0 {
				b[i] = byte(2 + pick(kinds))
			}
		}
		s := string(b)
		f, e := frames.Get(s)
		frames.Get("\x03\x02\x03\x04\x02\x01v\x06\x07")
		if again, err := frames.Get(s); err != e || !same(again, f) {
			t.Fatalf("Get(%q): %v, %d, and again %v, %d", s, f, e, again, err)
		}
		if checkGet(t, s) {
			got++
		}
	}
	if got == 0 {
		t.Error("none was got")
	}
}

// anyFrames tells so many frames without a plan, of which most may be.
func anyFrames(count int, see func(f api.Frame)) {
	pick := picker()
	numbers, values, others, operations, chains := allNumbers(), edges(), junks(), opsTaken(), chainsTaken()
	for range count {
		f := of(1+pick(kinds), full())
		for _, name := range numbers {
			if name != "Kind" && pick(2) == 0 {
				*field(&f, name) = max(0, min(most, values[pick(len(values))]))
			}
		}
		f.Op, f.Entry.Op, f.Chain = operations[pick(len(operations))], operations[pick(len(operations))], chains[pick(len(chains))]
		f.Result.Code, f.Result.Value = 1+pick(3), long(pick(65))
		if pick(8) == 0 {
			*field(&f, numbers[pick(len(numbers))]) = values[pick(len(values))]
		}
		see(mixed(f, others[pick(len(others))]))
	}
}

// P13.5: frames without a plan: what is put is got, as Plain; what is got is put as the same bytes; of what is cut off, or has a byte behind it, nothing is got.
func TestOfAnyFrames(t *testing.T) {
	pick := picker()
	put, not := 0, 0
	anyFrames(20000, func(f api.Frame) {
		checkAll(t, f)
		if wrong(f) {
			not++
			return
		}
		put++
		s, _ := frames.Put(f)
		checkForm(t, s[:pick(len(s))])
		checkForm(t, s+letter(pick(256)))
		if g, e := frames.Get(s); e != api.OK || !frames.Same(g, frames.Plain(f)) || frames.Same(g, f) != same(f, plain(f)) {
			t.Fatalf("Get(%q) = %.300v, %d, of %.300v", s, g, e, f)
		}
	})
	if put < 10000 || not < 100 {
		t.Errorf("%d were put, and %d not", put, not)
	}
}

// P13.3 and the rule R4: what was got is the caller's own.
func TestWhatIsGotIsNewMemory(t *testing.T) {
	for _, f := range taken() {
		s := bytesOf(f)
		one, _ := frames.Get(s)
		two, _ := frames.Get(s)
		spoil(one)
		if !same(two, plain(f)) {
			t.Fatalf("Get(%q): another answer was changed, and with it %.300v", s, two)
		}
		checkGet(t, s)
		for _, name := range allTexts() {
			if shares(*text(&two, name), s) {
				t.Fatalf("Get(%q) tells a piece of it as %s", s, name)
			}
		}
	}
}
