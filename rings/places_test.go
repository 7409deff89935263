package rings

import (
	"reflect"
	"testing"

	"fairway/api"
)

// A place without a frame keeps nothing of what stood there: not to be seen by a caller, but it would stay in memory.
func TestPlacesWithoutFramesAreEmpty(t *testing.T) {
	full := func() *Ring {
		r, _ := New(3)
		for n := range 5 {
			r.Push(api.Frame{Seq: n, Op: api.Op{Key: "k"}, Chain: api.Chain{Members: []api.Member{{Node: n, Since: 1}}}})
			if n < 2 {
				r.Pop()
			}
		}
		return r
	}
	popped, cleared := full(), full()
	for range 3 {
		popped.Pop()
		checkEmptyPlaces(t, "Pop", popped)
		checkEmptyPlaces(t, "Pop, Copy", popped.Copy())
	}
	cleared.Clear()
	checkEmptyPlaces(t, "Clear", cleared)
}

func checkEmptyPlaces(t *testing.T, name string, r *Ring) {
	t.Helper()
	for i := r.Len(); i < r.Cap(); i++ {
		if f := r.places[r.place(i)]; !reflect.DeepEqual(f, api.Frame{}) {
			t.Errorf("%s: a place without a frame keeps %+v", name, f)
		}
	}
}
