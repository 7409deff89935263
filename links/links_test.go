package links_test

import (
	"fmt"
	"math"
	"slices"
	"strings"
	"testing"
	"unsafe"

	"fairway/api"
	"fairway/links"
)

// text is a text of so many bytes.
func text(size int) string {
	return strings.Repeat("x", size)
}

// mail is mail of a pair.
func mail(from, to int, text string) api.Mail {
	return api.Mail{From: from, To: to, Text: text}
}

// spelled is mail as it can be read, whatever bytes its text has.
func spelled(m api.Mail) string {
	return fmt.Sprintf("%d to %d: %.200q", m.From, m.To, m.Text)
}

// addresses is all that there are, rising: the nodes, the master, the clients.
func addresses() []int {
	return []int{0, 1, 2, 3, 4, 5, 16, 32, 33, 34, 35, 36, 37}
}

// noAddresses is numbers that are none's.
func noAddresses() []int {
	l := []int{-1, -2, -6, -16, -32, 64, 256, 1 << 16, 1 << 31, 1 << 32, 1<<32 + 1, 1<<32 + 16, 1<<32 + 32, api.MaxNumber, 1<<62 + 1, math.MaxInt - 1, math.MaxInt, math.MinInt, math.MinInt + 1, math.MinInt + 16}
	for n := 6; n < 60; n++ {
		if n != 16 && (n < 32 || n > 37) {
			l = append(l, n)
		}
	}
	return l
}

// allPairs is all pairs that may have mail, by who sends, then by to whom, rising.
func allPairs() [][2]int {
	var l [][2]int
	for _, from := range addresses() {
		for _, to := range addresses() {
			if from != to {
				l = append(l, [2]int{from, to})
			}
		}
	}
	return l
}

// noPairs is pairs that can't have any.
func noPairs() [][2]int {
	var l [][2]int
	for _, n := range addresses() {
		l = append(l, [2]int{n, n})
		for _, none := range noAddresses() {
			l = append(l, [2]int{n, none}, [2]int{none, n})
		}
	}
	for _, none := range noAddresses() {
		l = append(l, [2]int{none, none}, [2]int{none, -1}, [2]int{math.MaxInt, none})
	}
	return l
}

// noNumbers is numbers of which no pair with so much mail has some.
func noNumbers(count int) []int {
	return []int{-1, -2, -count, -count - 1, count, count + 1, 2 * count, 64, 65, 1 << 16, 1 << 31, 1 << 32, 1 << 62, math.MaxInt - 1, math.MaxInt, math.MinInt, math.MinInt + 1}
}

func made(t *testing.T, capacity int) *links.Links {
	t.Helper()
	l, e := links.New(capacity)
	if l == nil || e != api.OK {
		t.Fatalf("New(%d) = %v, %v", capacity, l, e)
	}
	return l
}

// madeOf is links by which these were sent, of one pair.
func madeOf(t *testing.T, capacity, from, to int, texts ...string) *links.Links {
	t.Helper()
	l := made(t, capacity)
	for _, s := range texts {
		checkSend(t, l, mail(from, to, s), api.OK)
	}
	return l
}

func checkSend(t *testing.T, l *links.Links, m api.Mail, want api.Errno) {
	t.Helper()
	if e := l.Send(m); e != want {
		t.Fatalf("Send(%s) = %d, not %d", spelled(m), e, want)
	}
}

func checkDeliver(t *testing.T, l *links.Links, from, to, i int, want string) {
	t.Helper()
	if m, e := l.Deliver(from, to, i); m != mail(from, to, want) || e != api.OK {
		t.Fatalf("Deliver(%d, %d, %d) = %s, %d, not %.200q", from, to, i, spelled(m), e, want)
	}
}

func checkDrop(t *testing.T, l *links.Links, from, to, i int, want api.Errno) {
	t.Helper()
	if e := l.Drop(from, to, i); e != want {
		t.Fatalf("Drop(%d, %d, %d) = %d, not %d", from, to, i, e, want)
	}
}

func checkDouble(t *testing.T, l *links.Links, from, to, i int, want api.Errno) {
	t.Helper()
	if e := l.Double(from, to, i); e != want {
		t.Fatalf("Double(%d, %d, %d) = %d, not %d", from, to, i, e, want)
	}
}

// checkRefused asks for mail of a number by each function, which tell this error.
func checkRefused(t *testing.T, l *links.Links, from, to, i int, want api.Errno) {
	t.Helper()
	if m, e := l.Deliver(from, to, i); m != (api.Mail{}) || e != want {
		t.Fatalf("Deliver(%d, %d, %d) = %s, %d, not the error %d", from, to, i, spelled(m), e, want)
	}
	checkDrop(t, l, from, to, i, want)
	checkDouble(t, l, from, to, i, want)
}

// checkHas asks, twice, for all that is told of a pair, and for mail of numbers that it does not have.
func checkHas(t *testing.T, l *links.Links, from, to int, want ...string) {
	t.Helper()
	for range 2 {
		if texts := l.List(from, to); !slices.Equal(texts, want) {
			t.Fatalf("List(%d, %d) = %.200q, not %.200q", from, to, texts, want)
		}
		if n := l.Count(from, to); n != len(want) {
			t.Fatalf("Count(%d, %d) = %d, not %d", from, to, n, len(want))
		}
	}
	checkRefused(t, l, from, to, -1, api.ErrNone)
	checkRefused(t, l, from, to, len(want), api.ErrNone)
}

// checkPairs asks, twice, which pairs have mail, and how many all have.
func checkPairs(t *testing.T, l *links.Links, all int, want ...[2]int) {
	t.Helper()
	for range 2 {
		if pairs := l.Pairs(); !slices.Equal(pairs, want) {
			t.Fatalf("Pairs: %v, not %v", pairs, want)
		}
		if n := l.All(); n != all {
			t.Fatalf("All: %d, not %d", n, all)
		}
	}
}

// P14.1: all capacities near those that may be, and others far beyond.
func TestNewRefusesCapacitiesThatMayNotBe(t *testing.T) {
	for _, capacity := range []int{0, -1, -2, -64, -65, 65, 66, 128, 512, 1 << 16, 1 << 31, 1 << 32, 1<<32 + 1, 1<<32 + 64, 1 << 62, 1<<62 + 1, math.MaxInt - 1, math.MaxInt, math.MinInt, math.MinInt + 1, math.MinInt + 64} {
		if l, e := links.New(capacity); l != nil || e != api.ErrArg {
			t.Errorf("New(%d) = %v, %v", capacity, l, e)
		}
	}
}

// P14.1: each capacity that may be: so much has a pair, and no more, but again when there is less.
func TestCapacity(t *testing.T) {
	for capacity := 1; capacity <= 64; capacity++ {
		l := made(t, capacity)
		checkPairs(t, l, 0)
		var want []string
		for n := range capacity {
			want = append(want, text(n))
			checkHas(t, l, 3, 16, want[:n]...)
			checkSend(t, l, mail(3, 16, text(n)), api.OK)
		}
		for _, again := range []func(){
			func() { checkDeliver(t, l, 3, 16, 0, want[0]) },
			func() { checkDrop(t, l, 3, 16, 0, api.OK) },
		} {
			checkSend(t, l, mail(3, 16, "more"), api.ErrFull)
			checkSend(t, l, mail(3, 16, ""), api.ErrFull)
			checkDouble(t, l, 3, 16, 0, api.ErrFull)
			checkDouble(t, l, 3, 16, capacity-1, api.ErrFull)
			checkHas(t, l, 3, 16, want...)
			again()
			want = want[1:]
			checkHas(t, l, 3, 16, want...)
			checkSend(t, l, mail(3, 16, "again"), api.OK)
			want = append(want, "again")
		}
		checkSend(t, l, mail(3, 16, "more"), api.ErrFull)
		checkHas(t, l, 3, 16, want...)
		checkPairs(t, l, capacity, [2]int{3, 16})
	}
}

// P14.1: a new one is without mail, also when others have some.
func TestNew(t *testing.T) {
	a, b := made(t, 2), made(t, 2)
	checkPairs(t, b, 0)
	checkSend(t, a, mail(0, 1, "a"), api.OK)
	checkPairs(t, b, 0)
	checkHas(t, b, 0, 1)
	checkSend(t, b, mail(0, 1, "b"), api.OK)
	checkSend(t, b, mail(0, 1, "b"), api.OK)
	checkHas(t, a, 0, 1, "a")
	checkPairs(t, made(t, 2), 0)
}

// The chapter's example.
func TestExample(t *testing.T) {
	l := made(t, 2)
	checkSend(t, l, mail(0, 1, "a"), api.OK)
	checkSend(t, l, mail(0, 1, "b"), api.OK)
	checkSend(t, l, mail(0, 1, "c"), api.ErrFull)
	checkDouble(t, l, 0, 1, 0, api.ErrFull)
	checkDeliver(t, l, 0, 1, 1, "b")
	checkDouble(t, l, 0, 1, 0, api.OK)
	checkHas(t, l, 0, 1, "a", "a")
	checkSend(t, l, mail(0, 0, "a"), api.ErrArg)
	checkSend(t, l, mail(6, 0, "a"), api.ErrArg)
	checkDrop(t, l, 1, 0, 0, api.ErrNone)
}

// P14.1: each two addresses may send to each other.
func TestSendOfEachPair(t *testing.T) {
	for _, p := range allPairs() {
		l := made(t, 1)
		checkSend(t, l, mail(p[0], p[1], "a"), api.OK)
		checkHas(t, l, p[0], p[1], "a")
		checkHas(t, l, p[1], p[0])
		checkPairs(t, l, 1, p)
		checkDeliver(t, l, p[0], p[1], 0, "a")
		checkPairs(t, l, 0)
	}
}

// P14.1: what is no address, on each side, and one address on both; nothing is changed.
func TestSendOfPairsThatMayNotBe(t *testing.T) {
	l, full := madeOf(t, 2, 0, 1, "a"), madeOf(t, 1, 0, 1, "a")
	for _, p := range noPairs() {
		for _, s := range []string{"", "a", text(512)} {
			checkSend(t, l, mail(p[0], p[1], s), api.ErrArg)
			checkSend(t, full, mail(p[0], p[1], s), api.ErrArg)
		}
		checkHas(t, l, p[0], p[1])
	}
	checkPairs(t, l, 1, [2]int{0, 1})
	checkPairs(t, full, 1, [2]int{0, 1})
	checkHas(t, l, 0, 1, "a")
}

// P14.1: of nothing, up to MaxFrame bytes, and any bytes.
func TestTexts(t *testing.T) {
	l := made(t, 1)
	texts := []string{"\x00", "\xff", "\x00\x00", "a\x00b", "ä", "\xc3", "\xef\xbf\xbd", strings.Repeat("\x00", 512), strings.Repeat("\xff", 512), strings.Repeat("ä", 256), strings.Repeat("\xf0\x9f\x98\x80", 128)}
	for size := range 513 {
		texts = append(texts, text(size))
	}
	for b := range 256 {
		texts = append(texts, string([]byte{byte(b)}), "a"+string([]byte{byte(b)}))
	}
	for _, s := range texts {
		checkSend(t, l, mail(32, 5, s), api.OK)
		checkHas(t, l, 32, 5, s)
		checkDeliver(t, l, 32, 5, 0, s)
	}
}

// P14.1: a text of more bytes than MaxFrame, however many letters these are; nothing is changed.
func TestTextsThatAreTooLong(t *testing.T) {
	l := madeOf(t, 2, 0, 1, "a")
	for _, s := range []string{text(513), text(514), text(1024), text(1 << 16), text(1 << 24), strings.Repeat("\x00", 513), strings.Repeat("ä", 257), strings.Repeat("\xf0\x9f\x98\x80", 129)} {
		for _, p := range [][2]int{{0, 1}, {1, 0}, {0, 16}, {37, 16}, {16, 37}} {
			checkSend(t, l, mail(p[0], p[1], s), api.ErrLong)
		}
	}
	checkHas(t, l, 0, 1, "a")
	checkPairs(t, l, 1, [2]int{0, 1})
}

// P14.1: each two reasons at once, and all of them, in the chapter's order.
func TestWhichErrorComesFirst(t *testing.T) {
	l := madeOf(t, 1, 0, 1, "a")
	for _, x := range []struct {
		m    api.Mail
		want api.Errno
	}{
		{mail(0, 1, text(512)), api.ErrFull},
		{mail(0, 1, text(513)), api.ErrLong},
		{mail(1, 0, text(513)), api.ErrLong},
		{mail(0, 0, text(512)), api.ErrArg},
		{mail(0, 0, text(513)), api.ErrArg},
		{mail(0, 6, text(513)), api.ErrArg},
		{mail(-1, 1, text(513)), api.ErrArg},
		{mail(15, 17, text(513)), api.ErrArg},
		{mail(38, 38, text(1<<20)), api.ErrArg},
		{mail(math.MinInt, math.MaxInt, text(513)), api.ErrArg},
	} {
		checkSend(t, l, x.m, x.want)
	}
	checkPairs(t, l, 1, [2]int{0, 1})
	checkHas(t, l, 0, 1, "a")
}

// P14.1 and P14.5: full is one pair alone.
func TestFullForOnePair(t *testing.T) {
	full := [2]int{0, 16}
	l := madeOf(t, 2, 0, 16, "a", "b")
	for _, p := range allPairs() {
		if p == full {
			continue
		}
		checkSend(t, l, mail(0, 16, "c"), api.ErrFull)
		checkSend(t, l, mail(p[0], p[1], "c"), api.OK)
		checkDouble(t, l, p[0], p[1], 0, api.OK)
		checkDouble(t, l, p[0], p[1], 0, api.ErrFull)
		checkDouble(t, l, 0, 16, 0, api.ErrFull)
		checkHas(t, l, p[0], p[1], "c", "c")
		checkHas(t, l, 0, 16, "a", "b")
	}
	checkPairs(t, l, 2*13*12, allPairs()...)
}

// P14.2: it stands in the order of sending, not of texts.
func TestListTellsInOrder(t *testing.T) {
	l := made(t, 5)
	checkHas(t, l, 1, 2)
	want := []string{"b", "", "c", "a", "b"}
	for n, s := range want {
		checkSend(t, l, mail(1, 2, s), api.OK)
		checkSend(t, l, mail(2, 1, "back"), api.OK)
		checkHas(t, l, 1, 2, want[:n+1]...)
		checkPairs(t, l, 2*n+2, [2]int{1, 2}, [2]int{2, 1})
	}
}

// P14.2: pairs that have no mail, and ones that can't have any: nothing, also where others have some.
func TestPairsWithoutMail(t *testing.T) {
	for _, l := range []*links.Links{made(t, 3), madeOf(t, 3, 0, 1, "a", "b")} {
		all := l.All()
		for _, p := range append(allPairs(), noPairs()...) {
			if p != [2]int{0, 1} {
				checkHas(t, l, p[0], p[1])
			}
		}
		if l.All() != all || len(l.Pairs()) != min(all, 1) {
			t.Errorf("All: %d, Pairs: %v", l.All(), l.Pairs())
		}
	}
}

// P14.2: the pairs that have mail, by who sends, then by to whom, rising, in whatever order was sent, delivered and dropped.
func TestPairsInAllOrders(t *testing.T) {
	rising := [][2]int{{0, 1}, {0, 16}, {1, 0}, {5, 37}, {16, 0}, {37, 2}}
	orders(slices.Clone(rising), func(order [][2]int) {
		l := made(t, 2)
		var sent [][2]int
		for n, p := range order {
			checkSend(t, l, mail(p[0], p[1], "a"), api.OK)
			checkSend(t, l, mail(p[0], p[1], "b"), api.OK)
			sent = append(sent, p)
			checkPairs(t, l, 2*n+2, sorted(sent)...)
		}
		for n, p := range order {
			checkDeliver(t, l, p[0], p[1], 1, "b")
			checkPairs(t, l, 2*len(sent)-1, sorted(sent)...)
			if n%2 == 0 {
				checkDeliver(t, l, p[0], p[1], 0, "a")
			} else {
				checkDrop(t, l, p[0], p[1], 0, api.OK)
			}
			sent = sent[1:]
			checkPairs(t, l, 2*len(sent), sorted(sent)...)
		}
	})
}

// sorted is those of all pairs that are in a list.
func sorted(l [][2]int) [][2]int {
	return slices.DeleteFunc(allPairs(), func(p [2]int) bool { return !slices.Contains(l, p) })
}

// orders goes through all orders of a list.
func orders(l [][2]int, see func([][2]int)) {
	var swap func(done int)
	swap = func(done int) {
		if done == len(l) {
			see(l)
			return
		}
		for i := done; i < len(l); i++ {
			l[done], l[i] = l[i], l[done]
			swap(done + 1)
			l[done], l[i] = l[i], l[done]
		}
	}
	swap(0)
}

// P14.2: all pairs there are, sent and delivered out of order, some more than once.
func TestManyPairs(t *testing.T) {
	for _, step := range []int{1, 155, 5, 7, 61} {
		l, pairs, all := made(t, 64), allPairs(), 0
		var sent [][2]int
		for n := range pairs {
			p := pairs[n*step%156]
			for i := range n%64 + 1 {
				checkSend(t, l, mail(p[0], p[1], text(i)), api.OK)
				all++
			}
			sent = append(sent, p)
			checkPairs(t, l, all, sorted(sent)...)
		}
		for n := range pairs {
			p := pairs[(n*step+70)%156]
			for count := l.Count(p[0], p[1]); count > 0; count-- {
				checkDeliver(t, l, p[0], p[1], count-1, text(count-1))
				all--
			}
			sent = slices.DeleteFunc(sent, func(q [2]int) bool { return q == p })
			checkPairs(t, l, all, sorted(sent)...)
		}
	}
}

// P14.3: mail of each number of pairs with one to five, and what stands there behind it.
func TestEachNumber(t *testing.T) {
	for count := 1; count <= 5; count++ {
		texts := []string{"a", "b", "c", "d", "e"}[:count]
		for i, s := range texts {
			rest := slices.Delete(slices.Clone(texts), i, i+1)
			l := madeOf(t, 6, 32, 0, texts...)
			checkDeliver(t, l, 32, 0, i, s)
			checkHas(t, l, 32, 0, rest...)

			l = madeOf(t, 6, 32, 0, texts...)
			checkDrop(t, l, 32, 0, i, api.OK)
			checkHas(t, l, 32, 0, rest...)

			l = madeOf(t, 6, 32, 0, texts...)
			checkDouble(t, l, 32, 0, i, api.OK)
			checkHas(t, l, 32, 0, append(slices.Clone(texts), s)...)
			checkDeliver(t, l, 32, 0, count, s)
			checkHas(t, l, 32, 0, texts...)
		}
	}
}

// P14.3: numbers of which there is no mail, of pairs with none, some and all that there may be; nothing is changed.
func TestNumbersOfNoMail(t *testing.T) {
	for count := range 65 {
		l := made(t, 64)
		var want []string
		for n := range count {
			want = append(want, text(n))
			checkSend(t, l, mail(16, 33, text(n)), api.OK)
		}
		for _, i := range noNumbers(count) {
			if i < 0 || i >= count {
				checkRefused(t, l, 16, 33, i, api.ErrNone)
			}
		}
		checkHas(t, l, 16, 33, want...)
	}
}

// P14.3: mail that there isn't is ErrNone also where no more could be sent, or could not at all.
func TestMailThatThereIsNot(t *testing.T) {
	l := madeOf(t, 1, 0, 1, "a")
	for _, i := range append(noNumbers(1), 0) {
		for _, p := range append(noPairs(), [2]int{1, 0}, [2]int{0, 2}, [2]int{2, 1}, [2]int{16, 1}, [2]int{0, 32}) {
			checkRefused(t, l, p[0], p[1], i, api.ErrNone)
		}
		if i != 0 {
			checkRefused(t, l, 0, 1, i, api.ErrNone)
		}
	}
	checkHas(t, l, 0, 1, "a")
	checkPairs(t, l, 1, [2]int{0, 1})
}

// P14.3: Double up to the capacity, also of what was doubled; full, it changes nothing, and does again when there is less.
func TestDoubleUpToTheCapacity(t *testing.T) {
	for capacity := 1; capacity <= 64; capacity++ {
		l := madeOf(t, capacity, 4, 3, text(512))
		want := []string{text(512)}
		for len(want) < capacity {
			checkDouble(t, l, 4, 3, len(want)-1, api.OK)
			want = append(want, text(512))
			checkHas(t, l, 4, 3, want...)
		}
		for i := range capacity {
			checkDouble(t, l, 4, 3, i, api.ErrFull)
		}
		checkHas(t, l, 4, 3, want...)
		checkDrop(t, l, 4, 3, capacity-1, api.OK)
		if capacity > 1 {
			checkDouble(t, l, 4, 3, 0, api.OK)
			checkDouble(t, l, 4, 3, 0, api.ErrFull)
			checkHas(t, l, 4, 3, want...)
		}
	}
}

// P14.3: all mail of a pair, taken out in each order of three.
func TestTakeOutInEachOrder(t *testing.T) {
	for _, x := range []struct {
		numbers [3]int
		texts   [3]string
	}{
		{[3]int{0, 0, 0}, [3]string{"a", "b", "c"}},
		{[3]int{0, 1, 0}, [3]string{"a", "c", "b"}},
		{[3]int{1, 0, 0}, [3]string{"b", "a", "c"}},
		{[3]int{1, 1, 0}, [3]string{"b", "c", "a"}},
		{[3]int{2, 0, 0}, [3]string{"c", "a", "b"}},
		{[3]int{2, 1, 0}, [3]string{"c", "b", "a"}},
	} {
		l := madeOf(t, 3, 0, 5, "a", "b", "c")
		for n, i := range x.numbers {
			checkDeliver(t, l, 0, 5, i, x.texts[n])
		}
		checkPairs(t, l, 0)
		checkHas(t, l, 0, 5)
		checkSend(t, l, mail(0, 5, "d"), api.OK)
		checkHas(t, l, 0, 5, "d")
	}
}

// P14.5: what one pair has makes no difference to any other one, the same way round or the other one.
func TestPairsAreApart(t *testing.T) {
	l := made(t, 3)
	for n, p := range allPairs() {
		for i := range 3 {
			checkSend(t, l, mail(p[0], p[1], text(n)+string(rune('a'+i))), api.OK)
		}
	}
	for n, p := range allPairs() {
		checkHas(t, l, p[0], p[1], text(n)+"a", text(n)+"b", text(n)+"c")
		checkDeliver(t, l, p[0], p[1], 1, text(n)+"b")
		checkDrop(t, l, p[0], p[1], 0, api.OK)
		checkDouble(t, l, p[0], p[1], 0, api.OK)
		checkHas(t, l, p[0], p[1], text(n)+"c", text(n)+"c")
	}
	for n, p := range allPairs() {
		checkHas(t, l, p[0], p[1], text(n)+"c", text(n)+"c")
	}
	checkPairs(t, l, 2*13*12, allPairs()...)
}

// The rule R4: what becomes of a list that was told makes no difference to the links, nor to another one.
func TestListsThatWereToldMayBeChanged(t *testing.T) {
	l := madeOf(t, 4, 0, 1, "a", "b", "c")
	checkSend(t, l, mail(5, 0, "d"), api.OK)
	texts, otherTexts := l.List(0, 1), l.List(0, 1)
	pairs, otherPairs := l.Pairs(), l.Pairs()
	texts[0], texts[1] = "x", "y"
	_ = append(texts[:2], "z")
	pairs[0], pairs[1] = [2]int{7, 7}, [2]int{0, 0}
	_ = append(pairs[:1], [2]int{9, 9})
	if !slices.Equal(otherTexts, []string{"a", "b", "c"}) || !slices.Equal(otherPairs, [][2]int{{0, 1}, {5, 0}}) {
		t.Errorf("other lists became %q, %v", otherTexts, otherPairs)
	}
	checkHas(t, l, 0, 1, "a", "b", "c")
	checkPairs(t, l, 4, [2]int{0, 1}, [2]int{5, 0})
	if cap(texts) > len(texts) {
		_ = append(texts, "behind")
	}
	checkSend(t, l, mail(0, 1, "e"), api.OK)
	_ = append(texts, "behind")
	checkHas(t, l, 0, 1, "a", "b", "c", "e")
}

// The rule R4: what becomes of the links makes no difference to a list that was told.
func TestListsThatWereToldStay(t *testing.T) {
	for _, x := range changes() {
		l := madeOf(t, 4, 0, 1, "a", "b", "c")
		checkSend(t, l, mail(5, 0, "d"), api.OK)
		texts, pairs := l.List(0, 1), l.Pairs()
		x.change(l)
		if !slices.Equal(texts, []string{"a", "b", "c"}) || !slices.Equal(pairs, [][2]int{{0, 1}, {5, 0}}) {
			t.Errorf("behind %s lists that were told became %q, %v", x.name, texts, pairs)
		}
	}
}

// change is a step that changes what the pair 0, 1 has; the links have a, b, c of it ahead of it, and room for one more.
type change struct {
	name   string
	change func(l *links.Links)
	want   []string
}

func changes() []change {
	return []change{
		{"Send", func(l *links.Links) { l.Send(mail(0, 1, "s")) }, []string{"a", "b", "c", "s"}},
		{"Deliver of the first", func(l *links.Links) { l.Deliver(0, 1, 0) }, []string{"b", "c"}},
		{"Deliver of the second", func(l *links.Links) { l.Deliver(0, 1, 1) }, []string{"a", "c"}},
		{"Deliver of the last", func(l *links.Links) { l.Deliver(0, 1, 2) }, []string{"a", "b"}},
		{"Drop of the first", func(l *links.Links) { l.Drop(0, 1, 0) }, []string{"b", "c"}},
		{"Drop of the last", func(l *links.Links) { l.Drop(0, 1, 2) }, []string{"a", "b"}},
		{"Double of the second", func(l *links.Links) { l.Double(0, 1, 1) }, []string{"a", "b", "c", "b"}},
		{"Deliver of all", func(l *links.Links) { l.Deliver(0, 1, 0); l.Deliver(0, 1, 0); l.Deliver(0, 1, 0) }, nil},
		{"Deliver, Send", func(l *links.Links) { l.Deliver(0, 1, 2); l.Send(mail(0, 1, "s")) }, []string{"a", "b", "s"}},
		{"Deliver of all, Send", func(l *links.Links) {
			l.Deliver(0, 1, 2)
			l.Deliver(0, 1, 1)
			l.Deliver(0, 1, 0)
			l.Send(mail(0, 1, "s"))
		}, []string{"s"}},
	}
}

// The rule R4: whoever handed a text in may use its bytes for something else: they are not looked at later.
func TestTextsAreNotKept(t *testing.T) {
	bytes := []byte("text")
	handed := unsafe.String(&bytes[0], len(bytes))
	l := made(t, 2)
	checkSend(t, l, mail(0, 1, handed), api.OK)
	checkDouble(t, l, 0, 1, 0, api.OK)
	c := l.Copy()
	texts := l.List(0, 1)
	m, _ := l.Deliver(0, 1, 0)
	copy(bytes, "xxxx")
	if m != mail(0, 1, "text") || !slices.Equal(texts, []string{"text", "text"}) {
		t.Errorf("what was told became %s, %q", spelled(m), texts)
	}
	checkHas(t, l, 0, 1, "text")
	checkHas(t, c, 0, 1, "text", "text")
}

// none is links that are nil, or that New did not make, made anew.
func none() map[string]*links.Links {
	refused, _ := links.New(0)
	return map[string]*links.Links{"nil": nil, "zero": {}, "new": new(links.Links), "refused": refused, "copied": (*links.Links)(nil).Copy(), "copied of zero": new(links.Links).Copy()}
}

// Of links that are none the chapter says what is told; nothing that is asked makes some of them, and no other error comes first.
func TestLinksThatAreNone(t *testing.T) {
	for name, l := range none() {
		t.Run(name, func(t *testing.T) {
			for range 2 {
				for _, p := range append(noPairs(), [2]int{0, 1}, [2]int{37, 16}) {
					for _, s := range []string{"", "a", text(512), text(513)} {
						checkSend(t, l, mail(p[0], p[1], s), api.ErrNil)
					}
					if n, texts := l.Count(p[0], p[1]), l.List(p[0], p[1]); n != 0 || len(texts) != 0 {
						t.Fatalf("Count %d, List %q", n, texts)
					}
					for _, i := range []int{0, 1, -1, 64, math.MaxInt, math.MinInt} {
						checkRefused(t, l, p[0], p[1], i, api.ErrNil)
					}
				}
				checkPairs(t, l, 0)
				if c := l.Copy(); c != nil {
					t.Errorf("Copy: %v", c)
				}
			}
		})
	}
}
