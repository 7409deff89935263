package ops_test

import (
	"math"
	"strings"
	"testing"
	"unsafe"

	"fairway/api"
	"fairway/ops"
)

// within tells whether a text stands in the memory of another one.
func within(piece, s string) bool {
	from, at := uintptr(unsafe.Pointer(unsafe.StringData(s))), uintptr(unsafe.Pointer(unsafe.StringData(piece)))
	return piece != "" && at >= from && at < from+uintptr(len(s))
}

// number is the bytes of a number from 0 to 65535, as the document spells it.
func number(n int) string {
	switch {
	case n < 248:
		return string([]byte{byte(n)})
	case n < 256:
		return string([]byte{248, byte(n)})
	}
	return string([]byte{249, byte(n / 256), byte(n % 256)})
}

// sized is a text's bytes, as the document spells it.
func sized(s string) string {
	return number(len(s)) + s
}

// bytesOf is the bytes that the chapter asks for, of an operation that may be.
func bytesOf(o api.Op) string {
	switch o.Kind {
	case 1:
		return "\x02" + sized(o.Key)
	case 2:
		return "\x03" + sized(o.Key) + sized(o.Value)
	case 3:
		return "\x04" + sized(o.Key)
	}
	return "\x05" + sized(o.Key) + sized(o.Value) + number(o.Version+1)
}

func checkPut(t *testing.T, o api.Op, want string, wantErr api.Errno) {
	t.Helper()
	if s, e := ops.Put(o); s != want || e != wantErr {
		t.Fatalf("Put(%.100v) = %.100q, %d, not %.100q, %d", o, s, e, want, wantErr)
	}
}

func checkGet(t *testing.T, s string, want api.Op) {
	t.Helper()
	if o, e := ops.Get(s); o != want || e != api.OK {
		t.Fatalf("Get(%.100q) = %v, %d, not %v", s, o, e, want)
	}
}

func checkNone(t *testing.T, s string) {
	t.Helper()
	if o, e := ops.Get(s); o != (api.Op{}) || e != api.ErrForm {
		t.Fatalf("Get(%.100q) = %v, %d: these are no operation's bytes", s, o, e)
	}
}

// checkWhole tells whether an operation has just these bytes, and fails if what is got is none that has them.
func checkWhole(t *testing.T, s string) bool {
	t.Helper()
	o, e := ops.Get(s)
	if e != api.OK {
		checkNone(t, s)
		return false
	}
	if wrong(o) != 0 || bytesOf(o) != s {
		t.Fatalf("Get(%.100q) = %v, that has other bytes", s, o)
	}
	checkPut(t, o, s, api.OK)
	return true
}

// P9.3: the chapter's example, each kind, and the edges.
func TestPutAndGet(t *testing.T) {
	for _, x := range []struct {
		o    api.Op
		want string
	}{
		{api.Op{Kind: api.OpGet, Key: "k"}, "\x02\x01k"},
		{api.Op{Kind: api.OpPut, Key: "k", Value: "v"}, "\x03\x01k\x01v"},
		{api.Op{Kind: api.OpPut, Key: "k"}, "\x03\x01k\x00"},
		{api.Op{Kind: api.OpDelete, Key: "key"}, "\x04\x03key"},
		{api.Op{Kind: api.OpSwap, Key: "k", Value: "v"}, "\x05\x01k\x01v\x01"},
		{api.Op{Kind: api.OpSwap, Key: "k", Value: "v", Version: 1}, "\x05\x01k\x01v\x02"},
		{api.Op{Kind: api.OpSwap, Key: "k", Version: 246}, "\x05\x01k\x00\xf7"},
		{api.Op{Kind: api.OpSwap, Key: "k", Version: 247}, "\x05\x01k\x00\xf8\xf8"},
		{api.Op{Kind: api.OpSwap, Key: "k", Version: 254}, "\x05\x01k\x00\xf8\xff"},
		{api.Op{Kind: api.OpSwap, Key: "k", Version: 255}, "\x05\x01k\x00\xf9\x01\x00"},
		{api.Op{Kind: api.OpSwap, Key: "k", Version: 4095}, "\x05\x01k\x00\xf9\x10\x00"},
		{api.Op{Kind: api.OpSwap, Key: "k", Version: 4096}, "\x05\x01k\x00\xf9\x10\x01"},
		{api.Op{Kind: api.OpGet, Key: text(16)}, "\x02\x10" + text(16)},
		{api.Op{Kind: api.OpDelete, Key: text(16)}, "\x04\x10" + text(16)},
		{api.Op{Kind: api.OpPut, Key: text(16), Value: text(64)}, "\x03\x10" + text(16) + "\x40" + text(64)},
		{api.Op{Kind: api.OpSwap, Key: text(16), Value: text(64), Version: 4096}, "\x05\x10" + text(16) + "\x40" + text(64) + "\xf9\x10\x01"},
		{api.Op{Kind: api.OpPut, Key: "\xff\x00", Value: "\xf8\x05"}, "\x03\x02\xff\x00\x02\xf8\x05"},
		{api.Op{Kind: api.OpGet, Key: "\x02\x01k"}, "\x02\x03\x02\x01k"},
		{api.Op{Kind: api.OpGet, Key: "ä"}, "\x02\x02\xc3\xa4"},
	} {
		checkPut(t, x.o, x.want, api.OK)
		checkGet(t, x.want, x.o)
	}
}

// P9.3: what Check refuses is not put: its error is told, and nothing.
func TestPutOfWhatIsRefused(t *testing.T) {
	for _, x := range []struct {
		o    api.Op
		want api.Errno
	}{
		{api.Op{}, api.ErrArg},
		{api.Op{Kind: 5, Key: "k"}, api.ErrArg},
		{api.Op{Kind: -1, Key: "k"}, api.ErrArg},
		{api.Op{Kind: math.MaxInt, Key: "k"}, api.ErrArg},
		{api.Op{Kind: api.OpPut}, api.ErrArg},
		{api.Op{Kind: api.OpGet, Key: "k", Value: "v"}, api.ErrArg},
		{api.Op{Kind: api.OpDelete, Key: "k", Value: "v"}, api.ErrArg},
		{api.Op{Kind: api.OpPut, Key: "k", Version: 1}, api.ErrArg},
		{api.Op{Kind: api.OpSwap, Key: "k", Version: -1}, api.ErrArg},
		{api.Op{Kind: api.OpSwap, Key: "k", Version: 4097}, api.ErrArg},
		{api.Op{Kind: api.OpGet, Key: text(17), Value: "v"}, api.ErrArg},
		{api.Op{Kind: api.OpGet, Key: text(17)}, api.ErrLong},
		{api.Op{Kind: api.OpPut, Key: "k", Value: text(65)}, api.ErrLong},
		{api.Op{Kind: api.OpSwap, Key: text(17), Value: text(65), Version: 4096}, api.ErrLong},
	} {
		checkPut(t, x.o, "", x.want)
	}
}

// P9.3 and P9.4: all of them: what is put is got, and put again.
func TestPutAndGetOfAll(t *testing.T) {
	byBytes := map[string]api.Op{}
	all(func(o api.Op) {
		if e := wrong(o); e != 0 {
			checkPut(t, o, "", api.Errno(e))
			return
		}
		s := bytesOf(o)
		checkPut(t, o, s, api.OK)
		checkGet(t, s, o)
		if same, there := byBytes[s]; there {
			t.Fatalf("%v and %v have the same bytes", o, same)
		}
		byBytes[s] = o
	})
	if len(byBytes) == 0 {
		t.Error("none may be")
	}
}

// P9.3: each version, each length.
func TestPutAndGetAtEachVersionAndLength(t *testing.T) {
	for version := range 4097 {
		o := api.Op{Kind: api.OpSwap, Key: "k", Value: "v", Version: version}
		checkPut(t, o, bytesOf(o), api.OK)
		checkGet(t, bytesOf(o), o)
	}
	for key := 1; key <= 16; key++ {
		for value := range 65 {
			o := api.Op{Kind: api.OpPut, Key: text(key), Value: text(value)}
			checkPut(t, o, bytesOf(o), api.OK)
			checkGet(t, bytesOf(o), o)
		}
	}
}

// The rule of new memory: what is got shares none with the bytes that were handed in.
func TestWhatIsGotIsNewMemory(t *testing.T) {
	for _, o := range taken() {
		s := bytesOf(o)
		if got, _ := ops.Get(s); within(got.Key, s) || within(got.Value, s) {
			t.Fatalf("Get(%.100q) tells a piece of it", s)
		}
	}
}

// P9.3: of what is cut off nothing is got, nor of what has bytes behind it.
func TestGetOfWhatIsCutOffOrGoesOn(t *testing.T) {
	for _, o := range taken() {
		s := bytesOf(o)
		for size := range len(s) {
			checkNone(t, s[:size])
		}
		for _, rest := range []string{"\x00", "\x01", "k", "\xff", "\xf8", "\x00\x00", s, text(600)} {
			checkNone(t, s+rest)
		}
	}
}

// P9.3: bytes that are none, or that spell an operation that Check refuses.
func TestGetOfWhatIsNone(t *testing.T) {
	for _, s := range []string{
		"", "k", "\xff", "\xf8", "\x00", "\x01", "\x02", "\x03", "\x04", "\x05", "\x06",
		// The kind: -1, 0, 5, and greater ones, with all that each kind has.
		"\x00\x01k", "\x01\x01k", "\x06\x01k", "\x07\x01k", "\xf7\x01k", "\xf8\xf8\x01k", "\xf9\x01\x02\x01k", "\xf9\x01\x03\x01k\x01v",
		"\x00\x01k\x01v", "\x01\x01k\x01v", "\x06\x01k\x01v", "\x00\x01k\x01v\x01", "\x01\x01k\x01v\x01", "\x06\x01k\x01v\x01",
		"\xfc\x01\x00\x00\x00\x02\x01k", "\xfd\x01\x00\x00\x00\x00\x01\x01k", "\xfd\x01\x00\x00\x00\x00\x02\x01k", "\xff\xff\xff\xff\xff\xff\xff\xff\xff\x01k",
		// No key, or one that is too long.
		"\x02\x00", "\x03\x00\x01v", "\x04\x00", "\x05\x00\x01v\x01",
		"\x02\x11" + text(17), "\x03\x11" + text(17) + "\x01v", "\x04\x11" + text(17), "\x05\x11" + text(17) + "\x01v\x01",
		"\x02\xf9\x01\x01" + text(257), "\x02\xf9\x02\x58" + text(600),
		// A value that is too long, that none may have, or that is not there.
		"\x03\x01k\x41" + text(65), "\x05\x01k\x41" + text(65) + "\x01", "\x03\x01k\xf9\x01\x00" + text(256),
		"\x02\x01k\x00", "\x02\x01k\x01v", "\x04\x01k\x00", "\x04\x01k\x01v", "\x03\x01k", "\x05\x01k", "\x05\x01k\x01v",
		// A version of -1, above 4096, and of kinds that have none.
		"\x05\x01k\x01v\x00", "\x05\x01k\x01v\xf9\x10\x02", "\x05\x01k\x01v\xf9\xff\xff", "\x05\x01k\x01v\xfa\x01\x00\x00",
		"\x05\x01k\x01v\xfd\x01\x00\x00\x00\x00\x01", "\x05\x01k\x01v\xfd\x01\x00\x00\x00\x00\x02", "\x05\x01k\x01v\xfc\x01\x00\x00\x00\x02",
		"\x05\x01k\x01v\xff\xff\xff\xff\xff\xff\xff\xff\xff", "\x02\x01k\x01", "\x03\x01k\x01v\x01", "\x04\x01k\x01",
		// Lengths above what is there.
		"\x02\x02k", "\x02\xf7k", "\x02\xf8\xffk", "\x02\xff\xff\xff\xff\xff\xff\xff\xff\xffk", "\x02\xff\x80\x00\x00\x00\x00\x00\x00\x00k",
		"\x03\x01k\x02v", "\x03\x01k\xff\xff\xff\xff\xff\xff\xff\xff\xffv", "\x05\x01k\x03v\x01", "\x05\x01k\x02v\x01",
		// Much of it.
		text(1 << 20), strings.Repeat("\x00", 1<<20), strings.Repeat("\x02\x01k", 1<<10), "\x02\xfa\x10\x00\x00" + text(1<<20),
	} {
		checkNone(t, s)
	}
}

// longForms is the bytes of a number from 0 to 65535 in more bytes than it takes.
func longForms(n int) []string {
	var l []string
	for size := 1; size <= 8; size++ {
		b := make([]byte, size+1)
		b[0] = byte(247 + size)
		b[size] = byte(n)
		if size > 1 {
			b[size-1] = byte(n / 256)
		}
		if s := string(b); len(s) > len(number(n)) {
			l = append(l, s)
		}
	}
	return l
}

// P9.3: a number that is spelled in more bytes than it takes.
func TestGetOfNumbersInMoreBytes(t *testing.T) {
	for _, o := range taken() {
		if len(o.Key)+len(o.Value) > 20 {
			continue
		}
		s := bytesOf(o)
		for _, kind := range longForms(o.Kind + 1) {
			checkNone(t, kind+s[1:])
		}
		for _, size := range longForms(len(o.Key)) {
			checkNone(t, s[:1]+size+s[2:])
		}
		if o.Kind != api.OpPut && o.Kind != api.OpSwap {
			continue
		}
		value := 2 + len(o.Key)
		for _, size := range longForms(len(o.Value)) {
			checkNone(t, s[:value]+size+s[value+1:])
		}
		if o.Kind == api.OpSwap {
			for _, version := range longForms(o.Version + 1) {
				checkNone(t, s[:value+1+len(o.Value)]+version)
			}
		}
	}
}

// letters is the bytes of which all short texts are made.
var letters = []byte{0, 1, 2, 3, 4, 5, 6, 'k', 0xf8}

// shortTexts is all texts of these letters, of up to so many bytes.
func shortTexts(size int) []string {
	l := []string{""}
	for from := 0; size > 0; size-- {
		to := len(l)
		for _, s := range l[from:to] {
			for _, b := range letters {
				l = append(l, s+string([]byte{b}))
			}
		}
		from = to
	}
	return l
}

// shortOps is all operations that may be whose bytes are at most so many, with keys and values of these letters, by their bytes.
func shortOps(size int) map[string]api.Op {
	byBytes := map[string]api.Op{}
	texts := shortTexts(size - 2)
	for _, key := range texts {
		for _, kind := range []int{1, 3} {
			add(byBytes, api.Op{Kind: kind, Key: key}, size)
		}
		for _, value := range texts {
			if len(key)+len(value) > size-3 {
				break
			}
			add(byBytes, api.Op{Kind: 2, Key: key, Value: value}, size)
			for version := range 4097 {
				add(byBytes, api.Op{Kind: 4, Key: key, Value: value, Version: version}, size)
			}
		}
	}
	return byBytes
}

func add(byBytes map[string]api.Op, o api.Op, size int) {
	if wrong(o) != 0 {
		return
	}
	if s := bytesOf(o); len(s) <= size {
		byBytes[s] = o
	}
}

// P9.3: all short bytes: each one that is an operation's is got, and no other one.
func TestGetOfAllShortBytes(t *testing.T) {
	const size = 6
	byBytes, got := shortOps(size), map[int]int{}
	for _, s := range shortTexts(size) {
		o, there := byBytes[s]
		if !there {
			checkNone(t, s)
			continue
		}
		checkGet(t, s, o)
		got[o.Kind]++
	}
	for kind := 1; kind <= 4; kind++ {
		if got[kind] == 0 {
			t.Errorf("none of the kind %d was got", kind)
		}
	}
}

// changed is bytes with one of them put in, taken out, or made another one.
func changed(s string, see func(string)) {
	for i := range len(s) {
		see(s[:i] + s[i+1:])
		for b := range 256 {
			letter := string([]byte{byte(b)})
			see(s[:i] + letter + s[i:])
			see(s[:i] + letter + s[i+1:])
		}
	}
}

// P9.3 and P9.4: what is got of bytes near an operation's has just these.
func TestGetOfWhatIsNearOne(t *testing.T) {
	whole := 0
	for _, o := range []api.Op{
		{Kind: 1, Key: "k"}, {Kind: 1, Key: text(16)}, {Kind: 2, Key: "k", Value: "v"}, {Kind: 2, Key: "kk"}, {Kind: 2, Key: text(16), Value: text(64)},
		{Kind: 3, Key: "key"}, {Kind: 4, Key: "k", Value: "v", Version: 7}, {Kind: 4, Key: "k", Version: 250}, {Kind: 4, Key: "k", Value: "vv", Version: 300},
		{Kind: 4, Key: text(16), Value: text(64), Version: 4096}, {Kind: 4, Key: "\x00\xf8", Value: "\x05\x01", Version: 4095},
	} {
		changed(bytesOf(o), func(s string) {
			if checkWhole(t, s) {
				whole++
			}
		})
	}
	if whole == 0 {
		t.Error("none was got")
	}
}

// picker picks numbers, always the same ones.
func picker() func(n int) int {
	number := uint32(1)
	return func(n int) int {
		number = number*1664525 + 1013904223
		return int(number>>8) % n
	}
}

// P9.4 and the rules R1 and R2: bytes without a plan, many of which begin as an operation's: each call ends, and answers the same again.
func TestGetOfAnyBytes(t *testing.T) {
	pick := picker()
	whole := 0
	for range 200000 {
		b := make([]byte, pick(12))
		for i := range b {
			b[i] = byte(pick(256))
			if pick(3) > 0 {
				b[i] = byte(pick(7))
			}
		}
		s := string(b)
		o, e := ops.Get(s)
		ops.Get("\x03\x01k\x01v")
		if again, err := ops.Get(s); again != o || err != e {
			t.Fatalf("Get(%q): %v, %d, and again %v, %d", s, o, e, again, err)
		}
		if checkWhole(t, s) {
			whole++
		}
	}
	if whole == 0 {
		t.Error("none was got")
	}
}
