package links

import (
	"testing"

	"fairway/api"
)

// What was delivered or dropped is kept nowhere: not to be seen by a caller, but it would stay in memory.
func TestNothingIsKeptOfMailThatIsGone(t *testing.T) {
	takeOut := map[string]func(l *Links, i int){
		"Deliver": func(l *Links, i int) { l.Deliver(0, 1, i) },
		"Drop":    func(l *Links, i int) { l.Drop(0, 1, i) },
	}
	for name, take := range takeOut {
		for i := range 3 {
			l, _ := New(3)
			for range 3 {
				l.Send(api.Mail{From: 0, To: 1, Text: "a"})
			}
			for left := 2; left >= 0; left-- {
				take(l, min(i, left))
				checkKept(t, name, l, left)
				checkKept(t, name+", Copy", l.Copy(), left)
			}
			if len(l.texts) != 0 {
				t.Errorf("%s: %v stays of a pair without mail", name, l.texts)
			}
		}
	}
}

func checkKept(t *testing.T, name string, l *Links, count int) {
	t.Helper()
	texts := l.texts[pair{0, 1}]
	if len(texts) != count {
		t.Errorf("%s: %d are left, not %d", name, len(texts), count)
	}
	for _, s := range texts[len(texts):cap(texts)] {
		if s != "" {
			t.Errorf("%s: %q stays behind those that are left", name, s)
		}
	}
}
