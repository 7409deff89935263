package buckets_test

import (
	"math"
	"testing"

	"fairway/api"
	"fairway/buckets"
)

// lastTick is the last tick that there is: all ticks above it are that one.
const lastTick = 1 << 40

// odd is numbers far below and far beyond all that a bucket may be made of.
func odd() []int {
	return []int{
		-1, -2, -10, -16, -17, -1 << 31, -1 << 32, -lastTick, -lastTick - 1, -1 << 62, math.MinInt, math.MinInt + 1, math.MinInt + 16,
		lastTick + 1, lastTick + 2, lastTick + 16, 1 << 41, 1 << 44, 1 << 45, 1 << 62, math.MaxInt - lastTick, math.MaxInt - 16, math.MaxInt - 1, math.MaxInt,
	}
}

func made(t *testing.T, capacity, refill int) *buckets.Bucket {
	t.Helper()
	b, e := buckets.New(capacity, refill)
	if e != api.OK || b == nil {
		t.Fatalf("New(%d, %d) tells %v", capacity, refill, e)
	}
	return b
}

func checkLeft(t *testing.T, b *buckets.Bucket, now, want int) {
	t.Helper()
	for range 2 {
		if got := b.Left(now); got != want {
			t.Fatalf("Left at %d: %d, not %d", now, got, want)
		}
	}
}

func checkTake(t *testing.T, b *buckets.Bucket, now int, want bool) {
	t.Helper()
	if got := b.Take(now); got != want {
		t.Fatalf("Take at %d: %t", now, got)
	}
}

// takeAll takes so many at a tick, and not one more.
func takeAll(t *testing.T, b *buckets.Bucket, now, count int) {
	t.Helper()
	for range count {
		checkTake(t, b, now, true)
	}
	checkTake(t, b, now, false)
	checkTake(t, b, now, false)
	checkLeft(t, b, now, 0)
}

// none is buckets that are nil, or that New did not make, made anew.
func none() map[string]*buckets.Bucket {
	refused, _ := buckets.New(1, 0)
	return map[string]*buckets.Bucket{"nil": nil, "zero": {}, "refused": refused}
}

// P5.1: each capacity that may be, with the edges of refill: a full one, at the tick 0.
func TestNew(t *testing.T) {
	for capacity := 0; capacity <= 16; capacity++ {
		for _, refill := range []int{1, 2, 3, 10, 1 << 31, lastTick - 1, lastTick} {
			checkLeft(t, made(t, capacity, refill), 0, capacity)
			checkLeft(t, made(t, capacity, refill), math.MinInt, capacity)
			checkLeft(t, made(t, capacity, refill), math.MaxInt, capacity)
			b := made(t, capacity, refill)
			takeAll(t, b, 0, capacity)
			checkLeft(t, b, refill-1, 0)
			checkLeft(t, b, refill, min(1, capacity))
		}
	}
}

func TestNewRefusesWhatMayNotBe(t *testing.T) {
	for _, x := range []struct{ capacity, refill int }{
		{-1, 1}, {17, 1}, {-1, lastTick}, {17, lastTick}, {0, 0}, {1, 0}, {16, 0}, {1, -1}, {0, -1}, {16, -1},
		{0, lastTick + 1}, {1, lastTick + 1}, {16, lastTick + 1}, {-1, 0}, {17, 0}, {-1, lastTick + 1}, {17, lastTick + 1},
	} {
		checkRefused(t, x.capacity, x.refill)
	}
	for _, n := range odd() {
		checkRefused(t, n, 1)
		checkRefused(t, n, lastTick)
		checkRefused(t, 0, n)
		checkRefused(t, 16, n)
		for _, m := range odd() {
			checkRefused(t, n, m)
		}
	}
}

func checkRefused(t *testing.T, capacity, refill int) {
	t.Helper()
	if b, e := buckets.New(capacity, refill); b != nil || e != api.ErrArg {
		t.Errorf("New(%d, %d) = %v, %v", capacity, refill, b, e)
	}
}

// All numbers near the edges, by twos: refused just where the chapter says so.
func TestNewByTwos(t *testing.T) {
	for capacity := -3; capacity <= 20; capacity++ {
		for _, refill := range []int{-2, -1, 0, 1, 2, 16, 17, lastTick - 1, lastTick, lastTick + 1, lastTick + 2} {
			refused := capacity < 0 || capacity > 16 || refill < 1 || refill > lastTick
			b, e := buckets.New(capacity, refill)
			if refused != (e == api.ErrArg) || refused != (b == nil) || !refused && e != api.OK {
				t.Errorf("New(%d, %d) = %v, %v", capacity, refill, b, e)
			}
		}
	}
}

func TestBucketsAreApart(t *testing.T) {
	a, b := made(t, 2, 10), made(t, 2, 10)
	takeAll(t, a, 7, 2)
	checkLeft(t, b, 0, 2)
	checkTake(t, b, 0, true)
	checkLeft(t, b, 10, 2)
	checkLeft(t, a, 16, 0)
	checkLeft(t, a, 17, 1)
}

// The chapter says what of a bucket that is none is told; nothing that is asked makes one of it.
func TestBucketsThatAreNone(t *testing.T) {
	for name, b := range none() {
		for range 2 {
			for _, now := range append(odd(), 0, 1, 2, 16, lastTick-1, lastTick) {
				if b.Take(now) {
					t.Errorf("%s: Take at %d: true", name, now)
				}
				if n := b.Left(now); n != 0 {
					t.Errorf("%s: Left at %d: %d", name, now, n)
				}
				if c := b.Copy(); c != nil {
					t.Errorf("%s: Copy: %v", name, c)
				}
			}
		}
	}
}

// The chapter's examples.
func TestExamples(t *testing.T) {
	b := made(t, 2, 10)
	for _, want := range []bool{true, true, false} {
		checkTake(t, b, 0, want)
	}
	checkLeft(t, b, 9, 0)
	checkLeft(t, b, 10, 1)
	checkTake(t, b, 15, true)
	checkLeft(t, b, 19, 0)
	checkLeft(t, b, 20, 1)
	checkLeft(t, b, 3, 1)
	checkLeft(t, b, 30, 2)
}

// P5.2: until none is left, and once more; each capacity, at ticks from the first to the last.
func TestTakeUntilNoneIsLeft(t *testing.T) {
	for capacity := 0; capacity <= 16; capacity++ {
		for _, now := range []int{0, 1, 9, 10, 1000, lastTick - 1, lastTick} {
			b := made(t, capacity, 10)
			for left := capacity; left > 0; left-- {
				checkLeft(t, b, now, left)
				checkTake(t, b, now, true)
				checkLeft(t, b, now, left-1)
			}
			takeAll(t, b, now, 0)
		}
	}
}

// The first token that was taken comes refill ticks behind, then each refill ticks one, and none when it is full.
func TestTokensComeOneByOne(t *testing.T) {
	for _, refill := range []int{1, 2, 3, 10, 1 << 20} {
		for _, begin := range []int{0, 1, 9, 12345} {
			b := made(t, 4, refill)
			takeAll(t, b, begin, 4)
			for n := 1; n <= 4; n++ {
				checkLeft(t, b, begin+n*refill-1, n-1)
				checkLeft(t, b, begin+n*refill, n)
			}
			checkLeft(t, b, begin+5*refill, 4)
			checkLeft(t, b, begin+100*refill, 4)
			takeAll(t, b, begin+100*refill, 4)
		}
	}
}

// A tick just ahead of the next token, at it, and behind it; all at once, without a tick between.
func TestTicksNearTheNextToken(t *testing.T) {
	for _, x := range []struct{ now, left int }{
		{0, 0}, {1, 0}, {8, 0}, {9, 0}, {10, 1}, {11, 1}, {19, 1}, {20, 2}, {21, 2}, {29, 2}, {30, 3}, {31, 3}, {39, 3}, {40, 3},
		{1 << 20, 3}, {lastTick - 1, 3}, {lastTick, 3}, {lastTick + 1, 3}, {math.MaxInt, 3}, {-1, 0}, {math.MinInt, 0},
	} {
		b := made(t, 3, 10)
		takeAll(t, b, 0, 3)
		checkLeft(t, b, x.now, x.left)
		c := made(t, 3, 10)
		takeAll(t, c, 0, 3)
		takeAll(t, c, x.now, x.left)
	}
}

// It is not full: a token that is taken does not let the next one be waited for longer.
func TestTakeOfOneThatIsNotFull(t *testing.T) {
	b := made(t, 3, 10)
	checkTake(t, b, 5, true)
	checkTake(t, b, 7, true)
	checkTake(t, b, 14, true)
	checkTake(t, b, 14, false)
	checkLeft(t, b, 15, 1)
	checkTake(t, b, 24, true)
	checkTake(t, b, 24, false)
	checkLeft(t, b, 25, 1)
	checkLeft(t, b, 34, 1)
	checkLeft(t, b, 35, 2)
	checkTake(t, b, 44, true)
	checkLeft(t, b, 45, 2)
	checkLeft(t, b, 55, 3)
}

// A token that is refused changes nothing of when the next one comes.
func TestTakeInVain(t *testing.T) {
	b := made(t, 1, 10)
	checkTake(t, b, 3, true)
	for now := 3; now < 13; now++ {
		checkTake(t, b, now, false)
	}
	checkTake(t, b, 13, true)
	for now := 13; now < 23; now++ {
		checkTake(t, b, now, false)
	}
	checkTake(t, b, 23, true)
}

// It is full: the next token is waited for since the tick at which one is taken, not since it became full.
func TestSinceWhenAFullOneWaits(t *testing.T) {
	for _, x := range []struct{ asked, taken, next int }{
		{-1, 0, 10}, {-1, 5, 15}, {-1, 10, 20}, {-1, 999, 1009}, {0, 5, 15}, {5, 5, 15}, {4, 5, 15}, {9, 12, 22}, {50, 57, 67},
		// Taken at a tick that is below its own: at its own.
		{50, 3, 60}, {50, 49, 60}, {50, -1, 60}, {50, math.MinInt, 60},
	} {
		b := made(t, 2, 10)
		b.Left(x.asked)
		checkTake(t, b, x.taken, true)
		checkLeft(t, b, x.next-1, 1)
		checkLeft(t, b, x.next, 2)
	}
}

// It becomes full, and is asked then, or is not: what was waited for beyond that does not count for the next one.
func TestSinceWhenOneWaitsThatBecameFull(t *testing.T) {
	for _, x := range []struct{ asked, taken, next int }{
		{0, 10, 20}, {0, 11, 21}, {0, 15, 25}, {0, 19, 29}, {0, 20, 30}, {0, 25, 35}, {10, 10, 20}, {10, 15, 25}, {15, 19, 29}, {20, 20, 30}, {17, 4, 27},
	} {
		b := made(t, 1, 10)
		checkTake(t, b, 0, true)
		b.Left(x.asked)
		checkTake(t, b, x.taken, true)
		checkLeft(t, b, x.next-1, 0)
		checkLeft(t, b, x.next, 1)
		takeAll(t, b, x.next, 1)
	}
}

// A tick below its own, or below 0, is its own: nothing comes, nothing goes back.
func TestTicksBelowItsOwn(t *testing.T) {
	below := []int{49, 40, 3, 0, -1, -50, math.MinInt}
	for _, now := range below {
		b := made(t, 2, 10)
		checkLeft(t, b, 50, 2)
		checkLeft(t, b, now, 2)
		checkTake(t, b, now, true)
		checkLeft(t, b, now, 1)
		checkTake(t, b, now, true)
		for _, other := range below {
			checkTake(t, b, other, false)
			checkLeft(t, b, other, 0)
		}
		checkLeft(t, b, 59, 0)
		checkLeft(t, b, 60, 1)
		checkLeft(t, b, 69, 1)
		checkLeft(t, b, 70, 2)
	}
}

// Its own tick is that of Take in vain, and of Left, also.
func TestEachCallBringsIt(t *testing.T) {
	b := made(t, 1, 10)
	checkTake(t, b, 0, true)
	checkTake(t, b, 9, false)
	checkLeft(t, b, 10, 1)
	checkTake(t, b, 0, true)
	checkTake(t, b, 19, false)
	checkTake(t, b, 20, true)
	none := made(t, 0, 10)
	checkTake(t, none, lastTick, false)
	checkTake(t, none, 0, false)
}

// Ticks above the last one are that one: from there on no token comes.
func TestTicksAboveTheLastOne(t *testing.T) {
	for _, first := range []int{lastTick, lastTick + 1, 1 << 62, math.MaxInt} {
		for _, next := range []int{0, lastTick - 1, lastTick, lastTick + 1, lastTick + 2, 1 << 62, math.MaxInt} {
			b := made(t, 2, 1)
			takeAll(t, b, 0, 2)
			checkLeft(t, b, first, 2)
			takeAll(t, b, first, 2)
			checkTake(t, b, next, false)
			checkLeft(t, b, next, 0)
		}
	}
}

func TestTheLongestRefill(t *testing.T) {
	b := made(t, 16, lastTick)
	takeAll(t, b, 0, 16)
	checkLeft(t, b, lastTick-1, 0)
	checkLeft(t, b, lastTick, 1)
	checkLeft(t, b, math.MaxInt, 1)
	takeAll(t, b, math.MaxInt, 1)
	late := made(t, 16, lastTick)
	takeAll(t, late, 1, 16)
	checkLeft(t, late, lastTick, 0)
	checkLeft(t, late, lastTick+1, 0)
	checkLeft(t, late, math.MaxInt, 0)
	half := made(t, 16, lastTick/2)
	takeAll(t, half, 0, 16)
	checkLeft(t, half, lastTick/2-1, 0)
	checkLeft(t, half, lastTick-1, 1)
	checkLeft(t, half, lastTick, 2)
}

// A capacity of 0: it is full, and has none.
func TestNoCapacity(t *testing.T) {
	for _, refill := range []int{1, 10, lastTick} {
		b := made(t, 0, refill)
		for _, now := range append(odd(), 0, 1, 9, 10, 11, lastTick-1, lastTick) {
			checkLeft(t, b, now, 0)
			checkTake(t, b, now, false)
			checkLeft(t, b.Copy(), now, 0)
			checkTake(t, b.Copy(), now, false)
		}
	}
}

// P5.3: a copy has the capacity, the refill, the tokens, the tick, and since when the next one is waited for.
func TestCopyTellsTheSame(t *testing.T) {
	b := made(t, 3, 10)
	takeAll(t, b, 5, 3)
	checkLeft(t, b, 29, 2)
	for range 2 {
		for _, x := range []struct{ now, left int }{{0, 2}, {29, 2}, {34, 2}, {35, 3}, {1000, 3}} {
			checkLeft(t, b.Copy(), x.now, x.left)
			checkLeft(t, b.Copy().Copy(), x.now, x.left)
			takeAll(t, b.Copy(), x.now, x.left)
		}
		checkLeft(t, b, 29, 2)
	}
	fresh := made(t, 16, 1)
	checkLeft(t, fresh.Copy(), 0, 16)
}

func TestCopyGoesOnByItself(t *testing.T) {
	b := made(t, 2, 10)
	checkTake(t, b, 4, true)
	c := b.Copy()
	checkTake(t, c, 4, true)
	checkLeft(t, c, 4, 0)
	checkLeft(t, b, 4, 1)
	checkLeft(t, c, 100, 2)
	checkLeft(t, b, 13, 1)
	checkLeft(t, b, 14, 2)
	checkTake(t, b, 14, true)
	checkTake(t, b, 14, true)
	checkLeft(t, c, 0, 2)
	takeAll(t, c, 101, 2)
	checkLeft(t, b, 24, 1)
	checkLeft(t, c, 110, 0)
	checkLeft(t, c, 111, 1)
}

// A copy goes on to the end as the one that was copied does.
func TestCopyGoesOnToTheEnd(t *testing.T) {
	b := made(t, 2, 10)
	for now := range 500 {
		c := b.Copy()
		take := now%3 == 0
		if take && b.Take(now) != c.Take(now) {
			t.Fatalf("Take at %d: not the same", now)
		}
		if b.Left(now) != c.Left(now) {
			t.Fatalf("Left at %d: not the same", now)
		}
		b = c
	}
}
