package chains_test

import (
	"math"
	"strings"
	"testing"

	"fairway/api"
	"fairway/chains"
)

// P12.4: bytes that are written out.
func TestPutAndGet(t *testing.T) {
	for _, x := range []struct {
		c    api.Chain
		want string
	}{
		{example(), "\x04\x03\x03\x02\x01\x04\x00"},
		{of(1, -1, 0), "\x02\x02\x01\x02\x00"},
		{of(1, 0, 0), "\x02\x02\x01\x02\x01"},
		{of(1, 5, 5), "\x02\x02\x06\x02\x06"},
		{of(2, 4, 5, 4, 3, 2, 1, 0), "\x03\x07\x06\x02\x05\x02\x04\x02\x03\x02\x02\x02\x01\x02\x05"},
		{chain(246, -1, member(1, 246)), "\xf7\x02\x02\xf7\x00"},
		{chain(247, 1, member(1, 246)), "\xf8\xf8\x02\x02\xf7\x02"},
		{chain(300, 2, member(1, 255), member(2, 254)), "\xf9\x01\x2d\x03\x02\xf9\x01\x00\x03\xf8\xff\x03"},
		{chain(most, -1, member(3, most-1)), "\xfd\x01\x00\x00\x00\x00\x01\x02\x04\xfd\x01\x00\x00\x00\x00\x00\x00"},
		{chain(most-2, -1, member(3, 1)), "\xfc\xff\xff\xff\xff\xff\x02\x04\x02\x00"},
	} {
		if s, e := chains.Put(x.c); s != x.want || e != api.OK {
			t.Errorf("Put(%v) = %q, %d, not %q", x.c, s, e, x.want)
		}
		if c, e := chains.Get(x.want); e != api.OK || !same(c, x.c) {
			t.Errorf("Get(%q) = %v, %d, not %v", x.want, c, e, x.c)
		}
	}
}

// P12.4: what Check refuses is not put: its error is told, and nothing; nor is it got.
func TestPutAndGetOfWhatIsRefused(t *testing.T) {
	for _, c := range refused() {
		if s, e := chains.Put(c); s != "" || e != api.ErrArg {
			t.Fatalf("Put(%.200v) = %.100q, %d", c, s, e)
		}
		checkForm(t, bytesOf(c))
	}
}

// P12.4 and P12.5: what is put is got, and put again as the same bytes; other chains have other ones.
func TestPutAndGetOfAll(t *testing.T) {
	byBytes := map[string]api.Chain{}
	for _, c := range taken() {
		s, e := chains.Put(c)
		if e != api.OK || !checkGet(t, s) {
			t.Fatalf("Put(%v) = %q, %d", c, s, e)
		}
		if other, there := byBytes[s]; there && !same(c, other) {
			t.Fatalf("%v and %v have the same bytes", c, other)
		}
		byBytes[s] = c
	}
}

// P12.4: of what is cut off nothing is got, nor of what has something ahead or behind it.
func TestGetOfWhatIsCutOffOrGoesOn(t *testing.T) {
	for _, c := range taken() {
		s := bytesOf(c)
		for size := range len(s) {
			checkForm(t, s[:size])
			checkGet(t, s[len(s)-size:])
		}
		for b := range 256 {
			letter := string([]byte{byte(b)})
			checkForm(t, s+letter)
			checkGet(t, letter+s)
		}
		for _, rest := range []string{s, s[1:], "\x00\x00", "\x03\x02", "\xf8\xf8", strings.Repeat("\x00", 1<<16)} {
			checkForm(t, s+rest)
		}
	}
}

// P12.4: each byte another one, one put in, one taken out.
func TestGetOfWhatIsNearOne(t *testing.T) {
	whole := 0
	see := func(s string) {
		if checkGet(t, s) {
			whole++
		}
	}
	for _, c := range taken() {
		s := bytesOf(c)
		for i := range len(s) {
			see(s[:i] + s[i+1:])
			for b := range 256 {
				letter := string([]byte{byte(b)})
				see(s[:i] + letter + s[i:])
				see(s[:i] + letter + s[i+1:])
			}
		}
	}
	if whole == 0 {
		t.Error("none was got")
	}
}

// P12.4: counts that are not those of the members, negative ones and great ones among them.
func TestGetOfOtherCounts(t *testing.T) {
	for _, c := range taken() {
		var l []int
		for _, m := range c.Members {
			l = append(l, m.Node, m.Since)
		}
		for _, count := range []int{-1, 0, 1, 2, 3, 4, 5, 6, 7, 8, 12, 127, 128, 246, 247, 255, 256, 65536, 1<<31 - 1, 1 << 31, 1 << 32, 1<<32 + 1, 1<<32 + len(c.Members), most - 1, most, most + 1, 1<<62 + len(c.Members), math.MaxInt - 1, math.MaxInt, math.MinInt, math.MinInt + len(c.Members)} {
			s := spelled(c.Epoch, count) + spelled(l...) + spelled(c.Drain)
			if checkGet(t, s) != (count == len(c.Members)) {
				t.Fatalf("Get(%q): of %v, with the count %d", s, c, count)
			}
			checkForm(t, spelled(c.Epoch, count))
			checkForm(t, spelled(c.Epoch, count)+spelled(c.Drain))
			checkForm(t, spelled(c.Epoch, count)+spelled(l[:1]...))
			checkForm(t, spelled(c.Epoch, count)+spelled(l...))
		}
	}
}

// P12.4: a count that says how many there are, where there are none, or more than may be.
func TestGetOfNoneOrMoreThanMayBe(t *testing.T) {
	checkForm(t, spelled(3, 0, -1))
	checkForm(t, spelled(3, 0, 0))
	checkForm(t, spelled(3, -1, -1))
	checkForm(t, spelled(3, 0))
	for size := 7; size < 300; size++ {
		c := chain(3, -1)
		for n := range size {
			c.Members = append(c.Members, member(n, 1))
		}
		checkForm(t, bytesOf(c))
	}
	for size := 1; size <= 9; size++ {
		s := spelled(3, size)
		for n := range size {
			s += spelled(n, 1)
		}
		if checkGet(t, s+spelled(-1)) != (size <= 6) {
			t.Errorf("Get of %d members", size)
		}
		for short := range size {
			checkForm(t, spelled(3, size)+strings.Repeat(spelled(1, 1), short)+spelled(-1))
		}
	}
}

// longer is a number's bytes in more of them than it takes.
func longer(n uint64) []string {
	var l []string
	for size := 1; size <= 8; size++ {
		b := make([]byte, size+1)
		b[0] = byte(247 + size)
		for i, rest := size, n; i > 0; i, rest = i-1, rest/256 {
			b[i] = byte(rest)
		}
		if s := string(b); len(s) > len(number(n)) {
			l = append(l, s)
		}
	}
	return l
}

// P12.4: a number that is spelled in more bytes than it takes.
func TestGetOfNumbersInMoreBytes(t *testing.T) {
	count := 0
	for _, c := range taken() {
		l, ok := numbers(bytesOf(c))
		if !ok {
			t.Fatalf("%v has no bytes", c)
		}
		ahead := ""
		for i, n := range l {
			behind := ""
			for _, m := range l[i+1:] {
				behind += number(m)
			}
			for _, s := range longer(n) {
				checkForm(t, ahead+s+behind)
				count++
			}
			ahead += number(n)
		}
	}
	if count == 0 {
		t.Error("none was looked at")
	}
}

// P12.4: each number for itself above MaxNumber, and the greatest ones.
func TestGetOfNumbersThatAreTooGreat(t *testing.T) {
	l, _ := numbers(bytesOf(chain(most, 1, member(0, most), member(1, 1))))
	for i := range l {
		for _, n := range []uint64{most + 1, most + 2, most + 3, 1 << 48, 1 << 56, 1<<63 - 1, 1 << 63, 1<<63 + 1, math.MaxUint64 - 1, math.MaxUint64, 1<<63 + l[i], math.MaxUint64 - 6} {
			s := ""
			for j, m := range l {
				if j == i {
					m = n
				}
				s += number(m)
			}
			// MaxNumber itself is spelled as one more.
			if checkGet(t, s) && n != most+1 {
				t.Fatalf("Get(%q): the number %d is %d", s, i, n)
			}
		}
	}
}

// P12.4: bytes that are none.
func TestGetOfWhatIsNone(t *testing.T) {
	for _, s := range []string{
		"", "\x00", "\x01", "\x02", "\xff", "\xf8", "\xf8\x05", "k",
		"\x02\x02\x01\x02", "\x02\x02\x01\x02\x00\x00", "\x01\x02\x01\x02\x00", "\x00\x02\x01\x02\x00", "\x02\x00\x01\x02\x00", "\x02\x01\x01\x02\x00", "\x02\x01\x00", "\x02\x00\x00",
		"\x02\x03\x01\x02\x00", "\x02\x02\x00\x02\x00", "\x02\x02\x07\x02\x00", "\x02\x02\x01\x01\x00", "\x02\x02\x01\x00\x00", "\x02\x02\x01\x03\x00", "\x02\x02\x01\x02\x02", "\x02\x02\x01\x02\x07", "\x02\x03\x01\x02\x01\x02\x00",
		"\x02\xff\xff\xff\xff\xff\xff\xff\xff\xff\x01\x02\x00", "\x02\xfd\x01\x00\x00\x00\x00\x01\x01\x02\x00", "\x02\xfc\xff\xff\xff\xff\xff\x01\x02\x00",
		strings.Repeat("\x00", 1<<20), strings.Repeat("\x02", 1<<20), "\x02\xfa\x10\x00\x00" + strings.Repeat("\x02", 1<<21), strings.Repeat("\xff", 1<<20), strings.Repeat("\x02\x02\x01\x02\x00", 1<<16),
	} {
		checkForm(t, s)
	}
}

// allTexts tells all texts of these letters of just so many bytes.
func allTexts(letters string, size int, see func(s string)) {
	b := make([]byte, size)
	var fill func(i int)
	fill = func(i int) {
		if i == size {
			see(string(b))
			return
		}
		for j := range len(letters) {
			b[i] = letters[j]
			fill(i + 1)
		}
	}
	fill(0)
}

// P12.4: all short bytes: each chain that has them is got, and nothing else is.
func TestGetOfAllShortBytes(t *testing.T) {
	got := map[int]int{}
	for _, x := range []struct {
		letters string
		size    int
	}{
		{"\x00\x01\x02\x03\x06\x07\xf8", 0}, {"\x00\x01\x02\x03\x06\x07\xf8", 1}, {"\x00\x01\x02\x03\x06\x07\xf8", 2}, {"\x00\x01\x02\x03\x06\x07\xf8", 3}, {"\x00\x01\x02\x03\x06\x07\xf8", 4},
		{"\x00\x01\x02\x03\x06\x07\xf8", 5}, {"\x00\x01\x02\x03\x06\xf8", 6}, {"\x00\x01\x02\x03\x06", 7}, {"\x01\x02\x03\x04", 8}, {"\x01\x02\x03\x04", 9},
	} {
		allTexts(x.letters, x.size, func(s string) {
			if checkGet(t, s) {
				got[len(s)]++
			}
		})
	}
	for _, size := range []int{5, 7, 9} {
		if got[size] == 0 {
			t.Errorf("none of %d bytes was got", size)
		}
	}
}

// P12.4 and the rules R1 and R2: bytes without a plan, many of which begin as a chain's.
func TestGetOfAnyBytes(t *testing.T) {
	pick := picker()
	whole := 0
	for range 200000 {
		b := make([]byte, pick(17))
		for i := range b {
			b[i] = byte(pick(256))
			if pick(4) > 0 {
				b[i] = byte(pick(7))
			}
			if i == 1 && pick(4) > 0 {
				b[i] = byte((len(b)-3)/2 + 1)
			}
		}
		s := string(b)
		c, e := chains.Get(s)
		chains.Get("\x02\x02\x01\x02\x00")
		if again, f := chains.Get(s); f != e || !same(again, c) {
			t.Fatalf("Get(%q): %v, %d, and again %v, %d", s, c, e, again, f)
		}
		if checkGet(t, s) {
			whole++
		}
	}
	if whole == 0 {
		t.Error("none was got")
	}
}

// P12.4 and the rule R4: what was got is the caller's own.
func TestWhatIsGotIsNewMemory(t *testing.T) {
	for _, c := range taken() {
		s := bytesOf(c)
		one, _ := chains.Get(s)
		two, _ := chains.Get(s)
		spoil(one)
		if !same(two, c) {
			t.Fatalf("Get(%q): another answer was changed, and with it %v", s, two)
		}
		checkGet(t, s)
	}
}

func checkSame(t *testing.T, a, b api.Chain, want bool) {
	t.Helper()
	if chains.Same(a, b) != want || chains.Same(b, a) != want {
		t.Fatalf("Same(%.200v, %.200v): %t, and turned about %t", a, b, chains.Same(a, b), chains.Same(b, a))
	}
}

// P12.4: Same of chains that differ in one thing, also of ones that Check refuses.
func TestSame(t *testing.T) {
	bases := append(taken(), refused()...)
	for _, c := range bases {
		checkSame(t, c, c, true)
		checkSame(t, c, own(c), true)
		checkSame(t, c, roomy(c), len(c.Members) <= 12)
		for _, by := range []int{1, -1, 2, 1 << 16, 1 << 32, math.MinInt} {
			checkSame(t, c, changed(c, func(c *api.Chain) { c.Epoch += by }), false)
			checkSame(t, c, changed(c, func(c *api.Chain) { c.Drain += by }), false)
			for i := range min(len(c.Members), 7) {
				checkSame(t, c, changed(c, func(c *api.Chain) { c.Members[i].Node += by }), false)
				checkSame(t, c, changed(c, func(c *api.Chain) { c.Members[i].Since += by }), false)
			}
			checkSame(t, c, changed(c, func(c *api.Chain) { c.Epoch, c.Drain = c.Epoch+by, c.Drain-by }), false)
		}
		checkSame(t, c, changed(c, func(c *api.Chain) { c.Members = append(c.Members, member(0, 0)) }), false)
		checkSame(t, c, changed(c, func(c *api.Chain) { c.Members = append(c.Members, c.Members...) }), len(c.Members) == 0)
		checkSame(t, c, changed(c, func(c *api.Chain) { c.Members = append([]api.Member{member(1, 1)}, c.Members...) }), false)
		checkSame(t, c, changed(c, func(c *api.Chain) { c.Members = nil }), len(c.Members) == 0)
		if size := len(c.Members); size > 0 {
			checkSame(t, c, changed(c, func(c *api.Chain) { c.Members = c.Members[1:] }), false)
			checkSame(t, c, changed(c, func(c *api.Chain) { c.Members = c.Members[:size-1] }), false)
		}
	}
}

// P12.4: Same of any two chains.
func TestSameOfAnyTwo(t *testing.T) {
	all := append(taken(), refused()...)
	for i, a := range all {
		for _, b := range all[i:] {
			checkSame(t, a, b, same(a, b))
		}
	}
}

// P12.4: no Members as nil and as an empty slice; members in another order, and with each other's epochs.
func TestSameOfNoMembersAndOfOrders(t *testing.T) {
	for _, c := range []api.Chain{{}, {Epoch: 3, Drain: -1}, {Epoch: -1, Drain: math.MinInt}} {
		for _, none := range [][]api.Member{nil, {}, make([]api.Member, 0, 4), taken()[0].Members[:0]} {
			other := c
			other.Members = none
			checkSame(t, c, other, true)
			other.Members = make([]api.Member, 1)
			checkSame(t, c, other, false)
		}
	}
	c := chain(3, -1, member(2, 1), member(0, 3))
	checkSame(t, c, chain(3, -1, member(0, 3), member(2, 1)), false)
	checkSame(t, c, chain(3, -1, member(2, 3), member(0, 1)), false)
	checkSame(t, c, chain(3, -1, member(0, 1), member(2, 3)), false)
	checkSame(t, c, chain(3, -1, member(1, 2), member(3, 0)), false)
	checkSame(t, c, chain(-1, 3, member(2, 1), member(0, 3)), false)
	checkSame(t, c, chain(3, 2, member(2, 1), member(0, 3)), false)
}
