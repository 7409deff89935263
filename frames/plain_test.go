package frames_test

import (
	"math"
	"slices"
	"strings"
	"testing"
	"unsafe"

	"fairway/api"
	"fairway/chains"
	"fairway/frames"
	"fairway/ops"
)

const (
	most  = 1 << 40 // the greatest number
	kinds = 12
)

// field is where a number of a frame stands, by its name.
func field(f *api.Frame, name string) *int {
	switch name {
	case "Kind":
		return &f.Kind
	case "Epoch":
		return &f.Epoch
	case "Client":
		return &f.Client
	case "Seq":
		return &f.Seq
	case "Try":
		return &f.Try
	case "Class":
		return &f.Class
	case "Deadline":
		return &f.Deadline
	case "Reason":
		return &f.Reason
	case "Index":
		return &f.Index
	case "Grant":
		return &f.Grant
	case "Have":
		return &f.Have
	case "Code":
		return &f.Result.Code
	case "Version":
		return &f.Result.Version
	case "At":
		return &f.Result.At
	case "EntryIndex":
		return &f.Entry.Index
	case "EntryClient":
		return &f.Entry.Client
	case "EntrySeq":
		return &f.Entry.Seq
	case "OpKind":
		return &f.Op.Kind
	case "OpVersion":
		return &f.Op.Version
	case "EntryOpKind":
		return &f.Entry.Op.Kind
	case "EntryOpVersion":
		return &f.Entry.Op.Version
	case "ChainEpoch":
		return &f.Chain.Epoch
	case "ChainDrain":
		return &f.Chain.Drain
	}
	panic("no number of that name: " + name)
}

// text is where a text of a frame stands, by its name.
func text(f *api.Frame, name string) *string {
	switch name {
	case "Key":
		return &f.Op.Key
	case "Value":
		return &f.Op.Value
	case "ResultValue":
		return &f.Result.Value
	case "EntryKey":
		return &f.Entry.Op.Key
	case "EntryValue":
		return &f.Entry.Op.Value
	}
	panic("no text of that name: " + name)
}

// allNumbers is the names of all numbers of a frame, but for those of its members.
func allNumbers() []string {
	return strings.Fields("Kind Epoch Client Seq Try Class Deadline Reason Index Grant Have Code Version At EntryIndex EntryClient EntrySeq OpKind OpVersion EntryOpKind EntryOpVersion ChainEpoch ChainDrain")
}

// allTexts is the names of all texts of a frame.
func allTexts() []string {
	return strings.Fields("Key Value ResultValue EntryKey EntryValue")
}

// has is the names of the numbers that a kind has, as the chapter's table tells them.
func has(kind int) []string {
	table := []string{"", "Epoch Client Seq Try Class Deadline", "Client Seq Try", "Epoch Client Seq Try Reason", "Epoch", "Epoch Index Grant Have", "Epoch Index", "", "", "Epoch Index", "Epoch Index", "Epoch Index", "Epoch"}
	if kind < 1 || kind > kinds {
		return nil
	}
	return strings.Fields(table[kind])
}

// behind is what stands behind a kind's numbers: an Op, a Result, an Entry, a Chain, or nothing.
func behind(kind int) string {
	return map[int]string{1: "Op", 2: "Result", 4: "Entry", 8: "Chain"}[kind]
}

// checked is the names of all numbers that the chapter holds against 0 and MaxNumber, of a kind.
func checked(kind int) []string {
	more := map[string]string{"Result": "Version At", "Entry": "EntryIndex EntryClient EntrySeq"}
	return append(has(kind), strings.Fields(more[behind(kind)])...)
}

// own is the same frame with members in another place of the memory.
func own(f api.Frame) api.Frame {
	f.Chain.Members = slices.Clone(f.Chain.Members)
	return f
}

// changed is the frame with something in it made another one.
func changed(f api.Frame, change func(f *api.Frame)) api.Frame {
	f = own(f)
	change(&f)
	return f
}

// with is the frame with a number made another one.
func with(f api.Frame, name string, n int) api.Frame {
	return changed(f, func(f *api.Frame) { *field(f, name) = n })
}

// withText is the frame with a text made another one.
func withText(f api.Frame, name, s string) api.Frame {
	return changed(f, func(f *api.Frame) { *text(f, name) = s })
}

// of is the frame as one of another kind.
func of(kind int, f api.Frame) api.Frame {
	return with(f, "Kind", kind)
}

// same tells whether two frames have the same, no members and nil being one.
func same(a, b api.Frame) bool {
	for _, name := range allNumbers() {
		if *field(&a, name) != *field(&b, name) {
			return false
		}
	}
	for _, name := range allTexts() {
		if *text(&a, name) != *text(&b, name) {
			return false
		}
	}
	if len(a.Chain.Members) != len(b.Chain.Members) {
		return false
	}
	for i, m := range a.Chain.Members {
		if o := b.Chain.Members[i]; m.Node != o.Node || m.Since != o.Since {
			return false
		}
	}
	return true
}

func zero(f api.Frame) bool {
	return same(f, api.Frame{})
}

// plain is a frame with what its kind has alone.
func plain(f api.Frame) api.Frame {
	g := api.Frame{Kind: f.Kind}
	for _, name := range has(f.Kind) {
		*field(&g, name) = *field(&f, name)
	}
	switch behind(f.Kind) {
	case "Op":
		g.Op = f.Op
	case "Result":
		g.Result = f.Result
	case "Entry":
		g.Entry = f.Entry
	case "Chain":
		g.Chain = own(f).Chain
	}
	return g
}

// wrong tells whether a frame may not be.
func wrong(f api.Frame) bool {
	if f.Kind <= 0 || f.Kind > kinds {
		return true
	}
	for _, name := range checked(f.Kind) {
		if n := *field(&f, name); n < 0 || n > 1099511627776 {
			return true
		}
	}
	switch behind(f.Kind) {
	case "Op":
		return ops.Check(f.Op) != 0
	case "Result":
		return f.Result.Code < 1 || f.Result.Code > 3 || len(f.Result.Value) > 64
	case "Entry":
		return ops.Check(f.Entry.Op) != 0
	case "Chain":
		return chains.Check(f.Chain) != 0
	}
	return false
}

// number is a number's bytes, as the document spells them.
func number(n uint64) string {
	if n < 248 {
		return string([]byte{byte(n)})
	}
	var b []byte
	for ; n > 0; n /= 256 {
		b = append([]byte{byte(n % 256)}, b...)
	}
	return string(append([]byte{byte(247 + len(b))}, b...))
}

// spelled is the bytes of these numbers, each one as one from -1 on is spelled.
func spelled(l ...int) string {
	s := ""
	for _, n := range l {
		s += number(uint64(n) + 1)
	}
	return s
}

// piece is what bytes are put together of: a number, as it is spelled, or a text without its length.
type piece struct {
	isText bool
	n      uint64
	s      string
}

func (p piece) bytes() string {
	if p.isText {
		return p.s
	}
	return number(p.n)
}

// counted is the pieces of numbers, each one as one from -1 on is spelled.
func counted(l ...int) (to []piece) {
	for _, n := range l {
		to = append(to, piece{n: uint64(n) + 1})
	}
	return to
}

// sized is a text's pieces.
func sized(s string) []piece {
	return []piece{{n: uint64(len(s))}, {isText: true, s: s}}
}

// opPieces is an operation's, as the document spells it, also of one that may not be.
func opPieces(o api.Op) []piece {
	l := append(counted(o.Kind), sized(o.Key)...)
	if o.Kind == 2 || o.Kind == 4 {
		l = append(l, sized(o.Value)...)
	}
	if o.Kind == 4 {
		l = append(l, counted(o.Version)...)
	}
	return l
}

// chainPieces is a chain's, as the document spells it, also of one that may not be.
func chainPieces(c api.Chain) []piece {
	l := counted(c.Epoch, len(c.Members))
	for _, m := range c.Members {
		l = append(l, counted(m.Node, m.Since)...)
	}
	return append(l, counted(c.Drain)...)
}

// pieces is what the chapter puts a frame's bytes together of, also of one that may not be.
func pieces(f api.Frame) []piece {
	l := counted(f.Kind)
	for _, name := range has(f.Kind) {
		l = append(l, counted(*field(&f, name))...)
	}
	switch behind(f.Kind) {
	case "Op":
		l = append(l, opPieces(f.Op)...)
	case "Result":
		l = append(l, counted(f.Result.Code)...)
		l = append(l, sized(f.Result.Value)...)
		l = append(l, counted(f.Result.Version, f.Result.At)...)
	case "Entry":
		l = append(l, counted(f.Entry.Index, f.Entry.Client, f.Entry.Seq)...)
		l = append(l, opPieces(f.Entry.Op)...)
	case "Chain":
		l = append(l, chainPieces(f.Chain)...)
	}
	return l
}

// joined is the bytes of pieces.
func joined(l []piece) string {
	var s strings.Builder
	for _, p := range l {
		s.WriteString(p.bytes())
	}
	return s.String()
}

// bytesOf is the bytes that the chapter asks for, also of a frame that may not be.
func bytesOf(f api.Frame) string {
	return joined(pieces(f))
}

// reader takes bytes from the front; it fails when they are not as the document spells them.
type reader struct {
	s    string
	fail bool
}

func (r *reader) number() uint64 {
	for size := 1; size <= min(9, len(r.s)); size++ {
		n := uint64(0)
		for _, b := range []byte(r.s[:size]) {
			n = n*256 + uint64(b)
		}
		if size > 1 {
			n = n - uint64(r.s[0])<<(8*(size-1))
		}
		if number(n) == r.s[:size] {
			r.s = r.s[size:]
			return n
		}
	}
	r.fail = true
	return 0
}

// count is a number from -1 to MaxNumber.
func (r *reader) count() int {
	n := r.number()
	r.fail = r.fail || n > most+1
	return int(n) - 1
}

func (r *reader) text() string {
	n := r.number()
	if r.fail || n > uint64(len(r.s)) {
		r.fail = true
		return ""
	}
	s := r.s[:n]
	r.s = r.s[n:]
	return s
}

func (r *reader) op() (o api.Op) {
	o.Kind = r.count()
	o.Key = r.text()
	if o.Kind == 2 || o.Kind == 4 {
		o.Value = r.text()
	}
	if o.Kind == 4 {
		o.Version = r.count()
	}
	return o
}

func (r *reader) chain() (c api.Chain) {
	c.Epoch = r.count()
	size := r.count()
	for i := 0; i < size && !r.fail; i++ {
		node := r.count()
		c.Members = append(c.Members, api.Member{Node: node, Since: r.count()})
	}
	c.Drain = r.count()
	return c
}

// frameOf is the frame that may be that has these bytes; false, if none has them.
func frameOf(s string) (f api.Frame, ok bool) {
	r := &reader{s: s}
	f.Kind = r.count()
	for _, name := range has(f.Kind) {
		*field(&f, name) = r.count()
	}
	switch behind(f.Kind) {
	case "Op":
		f.Op = r.op()
	case "Result":
		f.Result.Code = r.count()
		f.Result.Value = r.text()
		f.Result.Version = r.count()
		f.Result.At = r.count()
	case "Entry":
		f.Entry.Index = r.count()
		f.Entry.Client = r.count()
		f.Entry.Seq = r.count()
		f.Entry.Op = r.op()
	case "Chain":
		f.Chain = r.chain()
	}
	if r.fail || r.s != "" || len(s) > 512 || wrong(f) {
		return api.Frame{}, false
	}
	return f, true
}

// shares tells whether a text stands in the memory of another one.
func shares(piece, s string) bool {
	from, at := uintptr(unsafe.Pointer(unsafe.StringData(s))), uintptr(unsafe.Pointer(unsafe.StringData(piece)))
	return piece != "" && at >= from && at < from+uintptr(len(s))
}

// picker picks numbers, always the same ones.
func picker() func(n int) int {
	number := uint32(1)
	return func(n int) int {
		number = number*1664525 + 1013904223
		return int(number>>8) % n
	}
}

// edges is numbers from the least to the greatest one, around those that a frame may have.
func edges() []int {
	l := []int{math.MinInt, math.MinInt + 1, -1 << 62, -most - 1, -most, -1 << 32, -256, -248, -3, -2, -1, 0, 1, 2, 3, 4, 5, 6, 7, 245, 246, 247, 248, 253, 254, 255, 256, 257, 4096, 65533, 65534, 65535, 65536}
	for _, bits := range []int{24, 31, 32} {
		l = append(l, 1<<bits-2, 1<<bits-1, 1<<bits, 1<<bits+1)
	}
	return append(l, most-2, most-1, most, most+1, most+2, 2*most, 1<<48, 1<<56, 1<<62, math.MaxInt-1, math.MaxInt)
}

// checkPlain holds Plain against the chapter.
func checkPlain(t *testing.T, f api.Frame) {
	t.Helper()
	was, want := own(f), plain(f)
	if g := frames.Plain(f); !same(g, want) {
		t.Fatalf("Plain(%.300v) = %.300v, not %.300v", f, g, want)
	}
	if g := frames.Plain(frames.Plain(f)); !same(g, want) {
		t.Fatalf("Plain of Plain(%.300v) = %.300v, not %.300v", f, g, want)
	}
	if !same(f, was) {
		t.Fatalf("Plain(%.300v): what was handed in is %.300v", was, f)
	}
}

// checkPut holds Put against the chapter, and Get of these bytes.
func checkPut(t *testing.T, f api.Frame) {
	t.Helper()
	was := own(f)
	s, e := frames.Put(f)
	if !same(f, was) {
		t.Fatalf("Put(%.300v): what was handed in is %.300v", was, f)
	}
	if wrong(f) {
		if s != "" || e != api.ErrArg {
			t.Fatalf("Put(%.300v) = %.100q, %d, not ErrArg", f, s, e)
		}
		// Of what an operation does not have there are no bytes: these may be another frame's.
		checkGet(t, bytesOf(f))
		return
	}
	if want := bytesOf(f); s != want || e != api.OK {
		t.Fatalf("Put(%.300v) = %q, %d, not %q", f, s, e, want)
	}
	if !checkGet(t, s) {
		t.Fatalf("Get(%q): not got, and put of %.300v", s, f)
	}
}

// checkForm gets what is no frame's bytes.
func checkForm(t *testing.T, s string) {
	t.Helper()
	if f, e := frames.Get(s); e != api.ErrForm || !zero(f) {
		t.Fatalf("Get(%.100q) = %.300v, %d: these are no frame's bytes", s, f, e)
	}
}

// checkGet gets any bytes: the frame that has them, that has these bytes again, or none.
func checkGet(t *testing.T, s string) bool {
	t.Helper()
	want, ok := frameOf(s)
	if !ok {
		checkForm(t, s)
		return false
	}
	f, e := frames.Get(s)
	if e != api.OK || !same(f, want) {
		t.Fatalf("Get(%q) = %.300v, %d, not %.300v", s, f, e, want)
	}
	if again, e := frames.Put(f); e != api.OK || again != s {
		t.Fatalf("Put(%.300v) = %q, %d, not %q, of which it was got", f, again, e, s)
	}
	if g := frames.Plain(f); !same(g, f) {
		t.Fatalf("Get(%q) = %.300v, that is not plain", s, f)
	}
	return true
}

// checkAll holds Plain, Put and Get of what was put against the chapter.
func checkAll(t *testing.T, f api.Frame) {
	t.Helper()
	checkPlain(t, f)
	checkPut(t, f)
}
