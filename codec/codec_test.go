package codec_test

import (
	"math"
	"math/big"
	"strings"
	"testing"

	"fairway/api"
	"fairway/codec"
)

// behind is what may stand behind what was put: nothing, a 0, what looks like more of a number, a whole number.
var behind = []string{"", "\x00", "zz", "\xff", "\xf7", "\xf8\xf8", "\xf9\x01", "\xff\xff\xff\xff\xff\xff\xff\xff\xff\xff"}

// trueNum is a number's bytes, put together out of the document's words by math/big.
func trueNum(n uint64) string {
	if n < 248 {
		return string([]byte{byte(n)})
	}
	digits := new(big.Int).SetUint64(n).Bytes()
	return string([]byte{byte(247 + len(digits))}) + string(digits)
}

// numbers is ordinary numbers and the edges of each count of bytes.
func numbers() []uint64 {
	l := []uint64{0, 1, 2, 7, 96, 100, 246, 247, 248, 249, 255, 256, 257, 300, 1000, 4096, 0xf7f7, 0xf800, 0x0100f8, math.MaxInt, 1<<63 + 1, math.MaxUint64 - 1, math.MaxUint64}
	for power := range 64 {
		l = append(l, 1<<power-1, 1<<power, 1<<power+1, 0xf8<<power, 0xa5c3<<power)
	}
	return l
}

// within is numbers from -1 to MaxNumber.
func within() []int {
	l := []int{-1, 0, 1, 2, 95, 246, 247, 248, 254, 255, 256, 300, 4096, 65534, 65535, 65536, api.MaxNumber - 1, api.MaxNumber}
	for power := range 40 {
		l = append(l, 1<<power-1, 1<<power-2, 1<<power, 1<<power+1)
	}
	return l
}

// beyond is numbers that have no bytes of Int.
func beyond() []int {
	return []int{-2, -3, -248, -1 << 40, math.MinInt + 1, math.MinInt, api.MaxNumber + 1, api.MaxNumber + 2, 1 << 41, 1 << 62, math.MaxInt - 1, math.MaxInt}
}

// texts is ordinary texts, the empty one, bytes of every kind, and the edges of how many they are.
func texts() []string {
	l := []string{"", "a", "ab", "\x00", "\x00\x00", "\xff", "\xf8\x05", "über", "\x02ab", "\xf8"}
	for _, size := range []int{16, 64, 246, 247, 248, 249, 255, 256, 257, 512, 65535, 65536} {
		l = append(l, strings.Repeat("x", size), strings.Repeat("\x00", size), strings.Repeat("\xf8", size))
	}
	return l
}

// broken is bytes ahead of which no number stands.
func broken() []string {
	l := []string{
		"", "\xf8", "\xf9", "\xff", "\xf9\x01", "\xfa\x01\x00", "\xff\x01", "\xff\x01\x02\x03\x04\x05\x06\x07",
		"\xf8\x00", "\xf8\x05", "\xf8\xf7", "\xf8\xf7\xf7", "\xf9\x00\x05", "\xf9\x00\xf7", "\xf9\x00\xf8", "\xf9\x00\xff", "\xf9\x00\x00",
		"\xfa\x00\xff\xff", "\xfb\x00\xff\xff\xff", "\xfc\x00\xff\xff\xff\xff", "\xfd\x00\xff\xff\xff\xff\xff", "\xfe\x00\xff\xff\xff\xff\xff\xff",
		"\xff\x00\xff\xff\xff\xff\xff\xff\xff", "\xff\x00\x00\x00\x00\x00\x00\x00\x00", "\xff\x00\x00\x00\x00\x00\x00\x00\xf8",
	}
	for _, n := range numbers() {
		whole := trueNum(n)
		for size := range len(whole) {
			l = append(l, whole[:size])
		}
	}
	return l
}

// short is all bytes of up to two, and those of three that begin as a long number, or just below.
func short() []string {
	l := []string{""}
	for a := range 256 {
		l = append(l, string([]byte{byte(a)}))
		for b := range 256 {
			l = append(l, string([]byte{byte(a), byte(b)}))
		}
	}
	for a := 246; a < 256; a++ {
		for b := range 256 {
			for _, c := range []byte{0, 1, 5, 246, 247, 248, 255} {
				l = append(l, string([]byte{byte(a), byte(b), c}))
			}
		}
	}
	return l
}

// scattered is bytes without a plan, the same at each run; many of them begin as a long number.
func scattered() []string {
	state := uint32(1)
	next := func() byte {
		state = state*1664525 + 1013904223
		return byte(state >> 24)
	}
	var l []string
	for i := range 20000 {
		b := make([]byte, i%14)
		for j := range b {
			b[j] = next()
		}
		if len(b) > 0 && i%3 == 0 {
			b[0] |= 0xf8
		}
		l = append(l, string(b))
	}
	return l
}

func checkNoNumber(t *testing.T, s string) {
	t.Helper()
	if n, rest, ok := codec.Read(s); n != 0 || rest != "" || ok {
		t.Errorf("Read(%q) = %d, %q, %t: no number stands there", s, n, rest, ok)
	}
}

func checkNoInt(t *testing.T, s string) {
	t.Helper()
	if n, rest, ok := codec.Unint(s); n != 0 || rest != "" || ok {
		t.Errorf("Unint(%q) = %d, %q, %t: no number stands there", s, n, rest, ok)
	}
}

func checkNoText(t *testing.T, s string) {
	t.Helper()
	if text, rest, ok := codec.Cut(s); text != "" || rest != "" || ok {
		t.Errorf("Cut(%.40q) = %.40q, %.40q, %t: no text stands there", s, text, rest, ok)
	}
}

func checkNumber(t *testing.T, s string, n uint64, rest string) {
	t.Helper()
	if m, r, ok := codec.Read(s); m != n || r != rest || !ok {
		t.Errorf("Read(%q) = %d, %q, %t, not %d, %q", s, m, r, ok, n, rest)
	}
}

func checkInt(t *testing.T, s string, n int, rest string) {
	t.Helper()
	if m, r, ok := codec.Unint(s); m != n || r != rest || !ok {
		t.Errorf("Unint(%q) = %d, %q, %t, not %d, %q", s, m, r, ok, n, rest)
	}
}

func checkText(t *testing.T, s, text, rest string) {
	t.Helper()
	if got, r, ok := codec.Cut(s); got != text || r != rest || !ok {
		t.Errorf("Cut(%.40q) = %.40q, %.40q, %t, not %.40q, %.40q", s, got, r, ok, text, rest)
	}
}

// P2.1: the chapter's examples, and the edges of each count of bytes.
func TestNum(t *testing.T) {
	for _, x := range []struct {
		n    uint64
		want string
	}{
		{0, "\x00"}, {1, "\x01"}, {100, "\x64"}, {246, "\xf6"}, {247, "\xf7"},
		{248, "\xf8\xf8"}, {255, "\xf8\xff"}, {256, "\xf9\x01\x00"}, {300, "\xf9\x01\x2c"}, {65535, "\xf9\xff\xff"},
		{65536, "\xfa\x01\x00\x00"}, {1<<24 - 1, "\xfa\xff\xff\xff"}, {1 << 24, "\xfb\x01\x00\x00\x00"},
		{1 << 32, "\xfc\x01\x00\x00\x00\x00"}, {0x0102030405, "\xfc\x01\x02\x03\x04\x05"}, {1 << 40, "\xfd\x01\x00\x00\x00\x00\x00"},
		{1 << 48, "\xfe\x01\x00\x00\x00\x00\x00\x00"}, {1<<56 - 1, "\xfe\xff\xff\xff\xff\xff\xff\xff"},
		{1 << 56, "\xff\x01\x00\x00\x00\x00\x00\x00\x00"}, {1 << 63, "\xff\x80\x00\x00\x00\x00\x00\x00\x00"},
		{0x0102030405060708, "\xff\x01\x02\x03\x04\x05\x06\x07\x08"}, {math.MaxUint64, "\xff\xff\xff\xff\xff\xff\xff\xff\xff"},
	} {
		if got := codec.Num(x.n); got != x.want {
			t.Errorf("Num(%d) = %q, not %q", x.n, got, x.want)
		}
	}
}

func TestNumAgainstTrueBytes(t *testing.T) {
	l := numbers()
	for n := range uint64(70000) {
		l = append(l, n)
	}
	for _, n := range l {
		if got, want := codec.Num(n), trueNum(n); got != want {
			t.Errorf("Num(%d) = %q, not %q", n, got, want)
		}
	}
}

func TestInt(t *testing.T) {
	for n, want := range map[int]string{
		-1: "\x00", 0: "\x01", 1: "\x02", 245: "\xf6", 246: "\xf7", 247: "\xf8\xf8", 248: "\xf8\xf9", 254: "\xf8\xff", 255: "\xf9\x01\x00", 299: "\xf9\x01\x2c",
		api.MaxNumber - 1: "\xfd\x01\x00\x00\x00\x00\x00", api.MaxNumber: "\xfd\x01\x00\x00\x00\x00\x01",
	} {
		if got := codec.Int(n); got != want {
			t.Errorf("Int(%d) = %q, not %q", n, got, want)
		}
	}
	for _, n := range within() {
		if got, want := codec.Int(n), trueNum(uint64(n+1)); got != want {
			t.Errorf("Int(%d) = %q, not %q", n, got, want)
		}
	}
}

func TestIntIsNothingBeyond(t *testing.T) {
	for _, n := range beyond() {
		if got := codec.Int(n); got != "" {
			t.Errorf("Int(%d) = %q, not nothing", n, got)
		}
	}
}

func TestText(t *testing.T) {
	for s, want := range map[string]string{"": "\x00", "ab": "\x02ab", "\x00": "\x01\x00", "\xff": "\x01\xff", "über": "\x05über"} {
		if got := codec.Text(s); got != want {
			t.Errorf("Text(%q) = %q, not %q", s, got, want)
		}
	}
	for _, s := range texts() {
		if got, want := codec.Text(s), trueNum(uint64(len(s)))+s; got != want {
			t.Errorf("Text of %d bytes = %.40q, not %.40q", len(s), got, want)
		}
	}
}

// P2.2: what stands ahead, and what is behind it.
func TestReadAtAllShortBytes(t *testing.T) {
	// Bytes of up to three hold no number from 65536 on.
	byBytes := map[string]uint64{}
	for n := range uint64(65536) {
		byBytes[trueNum(n)] = n
	}
	for _, s := range short() {
		found := false
		for size := range len(s) + 1 {
			if n, there := byBytes[s[:size]]; there {
				found = true
				checkNumber(t, s, n, s[size:])
			}
		}
		if !found {
			checkNoNumber(t, s)
			checkNoInt(t, s)
			checkNoText(t, s)
		}
	}
}

func TestReadOfWhatIsNoNumber(t *testing.T) {
	for _, s := range broken() {
		checkNoNumber(t, s)
		checkNoInt(t, s)
		checkNoText(t, s)
	}
}

func TestUnintOfWhatIsBeyond(t *testing.T) {
	for _, n := range []uint64{api.MaxNumber + 2, api.MaxNumber + 3, 1 << 41, 1 << 62, math.MaxInt, 1 << 63, 1<<63 + 1, math.MaxUint64 - 1, math.MaxUint64} {
		for _, rest := range behind {
			checkNoInt(t, trueNum(n)+rest)
		}
	}
}

func TestCut(t *testing.T) {
	checkText(t, "\x02ab", "ab", "")
	checkText(t, "\x02abc", "ab", "c")
	checkText(t, "\x00", "", "")
	checkText(t, "\x00ab", "", "ab")
	checkText(t, "\x01\x00\x00", "\x00", "\x00")
	for _, s := range []string{"", "\x01", "\x03ab", "\xf7", "\xf8\x02ab", "\xf9\x00\x02ab", "\xf8\xf8ab", "\xff\x00\x00\x00\x00\x00\x00\x00\x02ab"} {
		checkNoText(t, s)
	}
}

func TestCutOfLengthsAboveWhatIsThere(t *testing.T) {
	for _, n := range numbers() {
		for _, there := range []int{0, 1, 2, 246, 247, 248, 300} {
			if n > uint64(there) {
				checkNoText(t, trueNum(n)+strings.Repeat("x", there))
			}
		}
	}
}

// P2.3: what is put stands ahead of whatever is behind it; of what is cut off nothing is told.
func TestNumbersPutAreTold(t *testing.T) {
	for _, n := range numbers() {
		put := codec.Num(n)
		for _, rest := range behind {
			checkNumber(t, put+rest, n, rest)
		}
		for size := range len(put) {
			checkNoNumber(t, put[:size])
		}
	}
}

func TestIntsPutAreTold(t *testing.T) {
	for _, n := range within() {
		put := codec.Int(n)
		for _, rest := range behind {
			checkInt(t, put+rest, n, rest)
		}
		for size := range len(put) {
			checkNoInt(t, put[:size])
		}
	}
}

func TestTextsPutAreTold(t *testing.T) {
	for _, s := range texts() {
		put := codec.Text(s)
		for _, rest := range behind {
			checkText(t, put+rest, s, rest)
		}
		for size := range min(len(put), 300) {
			checkNoText(t, put[:size])
		}
		checkNoText(t, put[:len(put)-1])
	}
}

func TestManyPutBehindEachOtherAreTold(t *testing.T) {
	all := ""
	for _, n := range within() {
		all += codec.Int(n) + codec.Text(codec.Int(n)) + codec.Num(uint64(n+1))
	}
	for _, n := range within() {
		m, rest, ok := codec.Unint(all)
		text, rest, cut := codec.Cut(rest)
		u, rest, read := codec.Read(rest)
		if m != n || !ok || text != codec.Int(n) || !cut || u != uint64(n+1) || !read {
			t.Fatalf("behind each other: %d, %q, %d, not of %d", m, text, u, n)
		}
		all = rest
	}
	if all != "" {
		t.Errorf("%q is left", all)
	}
}

func TestWhatIsToldHasJustTheBytesThatStoodThere(t *testing.T) {
	numbers, ints, texts := 0, 0, 0
	for _, s := range append(short(), scattered()...) {
		if n, rest, ok := codec.Read(s); ok {
			numbers++
			if codec.Num(n)+rest != s {
				t.Errorf("Read(%q) = %d, %q", s, n, rest)
			}
		}
		if n, rest, ok := codec.Unint(s); ok {
			ints++
			if codec.Int(n)+rest != s {
				t.Errorf("Unint(%q) = %d, %q", s, n, rest)
			}
		}
		if text, rest, ok := codec.Cut(s); ok {
			texts++
			if codec.Text(text)+rest != s {
				t.Errorf("Cut(%q) = %q, %q", s, text, rest)
			}
		}
	}
	if numbers == 0 || ints == 0 || texts == 0 {
		t.Error("nothing was told", numbers, ints, texts)
	}
}

// The rules R1 and R2: each call ends without a panic and answers the same again; P2.2: beside a false stand zero and nothing.
func TestEachCallEndsAndAnswersTheSameAgain(t *testing.T) {
	for _, s := range append(append(short(), scattered()...), broken()...) {
		n, rest, ok := codec.Read(s)
		if n2, rest2, ok2 := codec.Read(s); n2 != n || rest2 != rest || ok2 != ok || !ok && (n != 0 || rest != "") {
			t.Errorf("Read(%q): %d, %q, %t, and again %d, %q, %t", s, n, rest, ok, n2, rest2, ok2)
		}
		i, rest, ok := codec.Unint(s)
		if i2, rest2, ok2 := codec.Unint(s); i2 != i || rest2 != rest || ok2 != ok || !ok && (i != 0 || rest != "") {
			t.Errorf("Unint(%q): %d, %q, %t, and again %d, %q, %t", s, i, rest, ok, i2, rest2, ok2)
		}
		text, rest, ok := codec.Cut(s)
		if text2, rest2, ok2 := codec.Cut(s); text2 != text || rest2 != rest || ok2 != ok || !ok && (text != "" || rest != "") {
			t.Errorf("Cut(%q): %q, %q, %t, and again %q, %q, %t", s, text, rest, ok, text2, rest2, ok2)
		}
		if codec.Text(s) != codec.Text(s) {
			t.Errorf("Text(%q): not the same again", s)
		}
	}
	for _, n := range append(within(), beyond()...) {
		if codec.Int(n) != codec.Int(n) || codec.Num(uint64(n)) != codec.Num(uint64(n)) {
			t.Errorf("Int or Num of %d: not the same again", n)
		}
	}
}
