package links_test

import (
	"slices"
	"strconv"
	"testing"

	"fairway/api"
	"fairway/links"
)

// plain is what the chapter asks for of links: all mail in one list, in order of sending.
type plain struct {
	capacity int
	mail     []api.Mail
}

// places is where a pair's mail stands in the list.
func (p plain) places(from, to int) []int {
	var l []int
	for n, m := range p.mail {
		if m.From == from && m.To == to {
			l = append(l, n)
		}
	}
	return l
}

func (p plain) list(from, to int) []string {
	var l []string
	for _, n := range p.places(from, to) {
		l = append(l, p.mail[n].Text)
	}
	return l
}

func (p *plain) send(m api.Mail) api.Errno {
	switch {
	case !slices.Contains(addresses(), m.From), !slices.Contains(addresses(), m.To), m.From == m.To:
		return api.ErrArg
	case len(m.Text) > 512:
		return api.ErrLong
	case len(p.places(m.From, m.To)) == p.capacity:
		return api.ErrFull
	}
	p.mail = append(p.mail, m)
	return api.OK
}

func (p *plain) deliver(from, to, i int) (api.Mail, api.Errno) {
	l := p.places(from, to)
	if i < 0 || i >= len(l) {
		return api.Mail{}, api.ErrNone
	}
	m := p.mail[l[i]]
	p.mail = slices.Delete(p.mail, l[i], l[i]+1)
	return m, api.OK
}

func (p *plain) double(from, to, i int) api.Errno {
	l := p.places(from, to)
	if i < 0 || i >= len(l) {
		return api.ErrNone
	}
	return p.send(p.mail[l[i]])
}

// The kinds of steps.
const (
	send = iota
	deliver
	drop
	double
)

// step is a step of a kind; i: of mail that there is, text: of what is sent.
type step struct {
	kind, from, to, i int
	text              string
}

// answer is what a step tells.
type answer struct {
	m api.Mail
	e api.Errno
}

func ask(l *links.Links, s step) (a answer) {
	switch s.kind {
	case send:
		a.e = l.Send(mail(s.from, s.to, s.text))
	case deliver:
		a.m, a.e = l.Deliver(s.from, s.to, s.i)
	case drop:
		a.e = l.Drop(s.from, s.to, s.i)
	case double:
		a.e = l.Double(s.from, s.to, s.i)
	}
	return a
}

// answer is what the chapter asks for of a step.
func (p *plain) answer(s step) (a answer) {
	switch s.kind {
	case send:
		a.e = p.send(mail(s.from, s.to, s.text))
	case deliver:
		a.m, a.e = p.deliver(s.from, s.to, s.i)
	case drop:
		_, a.e = p.deliver(s.from, s.to, s.i)
	case double:
		a.e = p.double(s.from, s.to, s.i)
	}
	return a
}

func checkStep(t *testing.T, l *links.Links, p *plain, s step) {
	t.Helper()
	want := p.answer(s)
	if a := ask(l, s); a != want {
		t.Fatalf("%v = %v, not %v", s, a, want)
	}
}

// checkIs holds all that links tell of these pairs, and of all together, against the list.
func checkIs(t *testing.T, l *links.Links, p plain, pairs [][2]int) {
	t.Helper()
	var have [][2]int
	for _, q := range pairs {
		want := p.list(q[0], q[1])
		if texts := l.List(q[0], q[1]); !slices.Equal(texts, want) || l.Count(q[0], q[1]) != len(want) {
			t.Fatalf("of %v: List %.100q, Count %d, not %.100q", q, texts, l.Count(q[0], q[1]), want)
		}
		if len(want) > 0 {
			have = append(have, q)
		}
	}
	if told := l.Pairs(); !slices.Equal(told, have) || l.All() != len(p.mail) {
		t.Fatalf("Pairs %v, All %d, not %v, %d", told, l.All(), have, len(p.mail))
	}
}

// short is steps of two pairs, of which one is the other one the other way round, and one of a pair that may not be.
func short() []step {
	l := []step{{kind: send, from: 1, to: 1}}
	for _, p := range [][2]int{{0, 1}, {1, 0}} {
		l = append(l, step{kind: send, from: p[0], to: p[1]})
		for i := range 2 {
			for _, kind := range []int{deliver, drop, double} {
				l = append(l, step{kind: kind, from: p[0], to: p[1], i: i})
			}
		}
	}
	return l
}

// rows goes through all rows of so many steps; of what is sent the text is its number in the row.
func rows(row, from []step, more int, see func([]step)) {
	if more == 0 {
		see(row)
		return
	}
	for _, s := range from {
		if s.kind == send {
			s.text = strconv.Itoa(len(row))
		}
		rows(append(row, s), from, more-1, see)
	}
}

// P14.1 to P14.3: all rows of up to four steps, of links without mail and of ones with some.
func TestAllShortRows(t *testing.T) {
	pairs := [][2]int{{0, 1}, {1, 0}, {1, 1}}
	for capacity := 1; capacity <= 3; capacity++ {
		for more := range 5 {
			rows(nil, short(), more, func(row []step) {
				for _, begin := range [][]step{nil, {{send, 0, 1, 0, "a"}, {send, 1, 0, 0, "b"}, {send, 0, 1, 0, "c"}}} {
					l, p := made(t, capacity), plain{capacity: capacity}
					for _, s := range append(begin, row...) {
						checkStep(t, l, &p, s)
					}
					checkIs(t, l, p, pairs)
				}
			})
		}
	}
}

// P14.5: of each row, each pair's part alone tells and leaves the same.
func TestRowsOfOnePairAlone(t *testing.T) {
	rows(nil, short(), 4, func(row []step) {
		both, alone := made(t, 2), map[int]*links.Links{0: made(t, 2), 1: made(t, 2)}
		for _, s := range row {
			if a, b := ask(both, s), ask(alone[s.from], s); a != b {
				t.Fatalf("%v: %v is %v, and alone %v", row, s, a, b)
			}
		}
		for from, l := range alone {
			if texts := both.List(from, 1-from); !slices.Equal(texts, l.List(from, 1-from)) {
				t.Fatalf("%v: List(%d, %d) = %q, and alone %q", row, from, 1-from, texts, l.List(from, 1-from))
			}
		}
	})
}

// picker picks numbers, always the same ones.
func picker() func(n int) int {
	number := uint32(1)
	return func(n int) int {
		number = number*1664525 + 1013904223
		return int(number>>8) % n
	}
}

// picked is a step of one of these pairs; most are of mail that there may be.
func picked(pick func(int) int, pairs [][2]int, capacity int) step {
	p := pairs[pick(len(pairs))]
	s := step{kind: pick(4), from: p[0], to: p[1], i: pick(capacity+2) - 1}
	switch {
	case s.kind == send:
		s.text = text(pick(520))
	case pick(3) == 0:
		s.i = 0
	}
	return s
}

// P14.1 to P14.5: long rows, of few pairs and of all; copies go on in the links' place.
func TestLongRows(t *testing.T) {
	pick := picker()
	for _, capacity := range []int{1, 2, 3, 16, 64} {
		for _, pairs := range [][][2]int{{{0, 1}}, {{0, 1}, {1, 0}}, {{0, 1}, {5, 16}, {6, 0}, {16, 32}, {16, 37}, {37, 37}}, allPairs()} {
			l, p := made(t, capacity), plain{capacity: capacity}
			for n := range 2000 {
				s := picked(pick, pairs, capacity)
				checkStep(t, l, &p, s)
				if pick(10) == 0 {
					old := l
					l = l.Copy()
					ask(old, step{send, s.from, s.to, 0, "of the old one"})
					ask(old, step{kind: drop, from: s.from, to: s.to})
				}
				if n%50 == 0 {
					checkIs(t, l, p, pairs)
				}
			}
			checkIs(t, l, p, pairs)
		}
	}
}

// P14.5: all that was sent, and not dropped, is delivered once, and once more for each Double.
func TestWhatIsSentIsDelivered(t *testing.T) {
	pick := picker()
	for _, capacity := range []int{1, 3, 64} {
		l := made(t, capacity)
		due, came := map[api.Mail]int{}, map[api.Mail]int{}
		for n := range 5000 {
			s := picked(pick, allPairs()[:20], capacity)
			s.text = strconv.Itoa(n)
			texts := l.List(s.from, s.to)
			a := ask(l, s)
			if a.e != api.OK {
				continue
			}
			switch s.kind {
			case send:
				due[mail(s.from, s.to, s.text)]++
			case deliver:
				came[a.m]++
			case drop:
				due[mail(s.from, s.to, texts[s.i])]--
			case double:
				due[mail(s.from, s.to, texts[s.i])]++
			}
		}
		for _, p := range l.Pairs() {
			for left := l.Count(p[0], p[1]); left > 0; left-- {
				m, _ := l.Deliver(p[0], p[1], pick(left))
				came[m]++
			}
		}
		checkCame(t, came, due)
		checkPairs(t, l, 0)
	}
}

// checkCame holds how often each mail came against how often it was due.
func checkCame(t *testing.T, came, due map[api.Mail]int) {
	t.Helper()
	for m, n := range due {
		if came[m] != n {
			t.Errorf("%v came %d times, not %d", m, came[m], n)
		}
	}
	for m := range came {
		if due[m] == 0 {
			t.Errorf("%v came, and was not due", m)
		}
	}
}

// The rule R2: what was asked ahead decides alone, whatever is asked of others, or only looked at, between.
func TestTheSameStepsAreAnsweredTheSame(t *testing.T) {
	pick := picker()
	a, b, others := made(t, 3), made(t, 3), made(t, 2)
	for range 5000 {
		s := picked(pick, allPairs()[:10], 3)
		first := ask(a, s)
		ask(others, s)
		clear(a.List(s.from, s.to))
		clear(a.Pairs())
		a.Copy().Drop(s.from, s.to, 0)
		a.Send(mail(s.from, s.from, "never"))
		a.Send(mail(s.from, s.to, text(513)))
		checkRefused(t, a, s.from, s.to, 3, api.ErrNone)
		if second := ask(b, s); first != second {
			t.Fatalf("%v = %v, and %v", s, first, second)
		}
	}
	if !slices.Equal(a.Pairs(), b.Pairs()) {
		t.Fatalf("Pairs: %v, and %v", a.Pairs(), b.Pairs())
	}
	for _, p := range allPairs() {
		if x, y := a.List(p[0], p[1]), b.List(p[0], p[1]); !slices.Equal(x, y) {
			t.Fatalf("List of %v: %.100q, and %.100q", p, x, y)
		}
	}
}
