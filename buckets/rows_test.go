package buckets_test

import (
	"math"
	"testing"

	"fairway/buckets"
)

// drops is a bucket tick by tick: while it is not full, each tick is one that was waited.
type drops struct{ capacity, refill, tokens, tick, waited int }

func newDrops(capacity, refill int) *drops {
	return &drops{capacity: capacity, refill: refill, tokens: capacity}
}

func (d *drops) left(now int) int {
	for d.tick < now {
		d.tick++
		if d.tokens == d.capacity {
			continue
		}
		d.waited++
		if d.waited == d.refill {
			d.tokens++
			d.waited = 0
		}
	}
	return d.tokens
}

func (d *drops) take(now int) bool {
	if d.left(now) == 0 {
		return false
	}
	d.tokens--
	return true
}

// debt is a bucket by the tick at which it would be full: each token that is taken lets that be refill ticks later.
type debt struct{ capacity, refill, tick, full int }

func (d *debt) left(now int) int {
	d.tick = max(d.tick, min(now, lastTick))
	d.full = max(d.full, d.tick)
	return d.capacity - (d.full-d.tick+d.refill-1)/d.refill
}

func (d *debt) take(now int) bool {
	if d.left(now) == 0 {
		return false
	}
	d.full += d.refill
	return true
}

// checkRow goes on in all ways, so many steps deep, by both calls, at all ticks from one below its own to one behind it is full.
func checkRow(t *testing.T, b *buckets.Bucket, d drops, deep int) {
	t.Helper()
	if deep == 0 {
		return
	}
	for now := d.tick - 1; now <= d.tick+d.capacity*d.refill+1; now++ {
		c, e := b.Copy(), d
		if got, want := c.Left(now), e.left(now); got != want {
			t.Fatalf("%+v: Left at %d: %d, not %d", d, now, got, want)
		}
		checkRow(t, c, e, deep-1)
		c, e = b.Copy(), d
		if got, want := c.Take(now), e.take(now); got != want {
			t.Fatalf("%+v: Take at %d: %t", d, now, got)
		}
		checkRow(t, c, e, deep-1)
	}
}

// P5.2: all short rows of steps, from each number of tokens that were taken.
func TestAllShortRows(t *testing.T) {
	for capacity := 0; capacity <= 3; capacity++ {
		for refill := 1; refill <= 3; refill++ {
			for taken := range capacity + 1 {
				b, d := made(t, capacity, refill), newDrops(capacity, refill)
				for n := range taken {
					checkTake(t, b, n, true)
					d.take(n)
				}
				checkRow(t, b, *d, 3)
			}
		}
	}
}

// picker picks numbers, always the same ones.
func picker() func(n int) int {
	number := uint32(1)
	return func(n int) int {
		number = number*1664525 + 1013904223
		return int(number>>8) % n
	}
}

// Long rows of steps, of which many are near the next token.
func TestLongRows(t *testing.T) {
	pick := picker()
	for capacity := 0; capacity <= 16; capacity++ {
		for _, refill := range []int{1, 2, 3, 7, 10, 64} {
			b, d := made(t, capacity, refill), newDrops(capacity, refill)
			for range 2000 {
				now := d.tick + pick(refill+2) - 1
				if pick(40) == 0 {
					now += pick(refill*capacity + 2)
				}
				if pick(3) == 0 {
					checkLeft(t, b, now, d.left(now))
				} else {
					checkTake(t, b, now, d.take(now))
				}
			}
		}
	}
}

// The same up to the last tick, and beyond it, with long refills.
func TestLongRowsToTheLastTick(t *testing.T) {
	pick := picker()
	far := []int{lastTick - 1, lastTick, lastTick + 1, 1 << 62, math.MaxInt}
	for capacity := 0; capacity <= 16; capacity++ {
		for _, refill := range []int{1, 5, 1 << 20, 1<<36 - 1, 1 << 38, lastTick / 2, lastTick - 1, lastTick} {
			b, d := made(t, capacity, refill), &debt{capacity: capacity, refill: refill}
			for n := range 600 {
				now := d.tick + refill/(1+pick(40)) + pick(3) - 1
				if n > 550 {
					now = far[pick(len(far))]
				}
				if n%4 == 0 {
					checkLeft(t, b, now, d.left(now))
				} else {
					checkTake(t, b, now, d.take(now))
				}
			}
		}
	}
}

// Each odd tick, from each state of a bucket that is made of edges, against the same.
func TestOddTicks(t *testing.T) {
	for _, capacity := range []int{0, 1, 2, 15, 16} {
		for _, refill := range []int{1, 10, lastTick / 16, lastTick - 1, lastTick} {
			for _, begin := range []int{0, 1, 10, lastTick / 2, lastTick - 1, lastTick} {
				for taken := range capacity + 1 {
					b, d := made(t, capacity, refill), &debt{capacity: capacity, refill: refill}
					for range taken {
						checkTake(t, b, begin, d.take(begin))
					}
					for _, now := range append(odd(), 0, 1, begin+refill-1, begin+refill, begin+refill+1, lastTick) {
						c, e := b.Copy(), *d
						checkTake(t, c, now, e.take(now))
						checkLeft(t, c, now, e.left(now))
						checkLeft(t, c, math.MaxInt, e.left(math.MaxInt))
					}
				}
			}
		}
	}
}

// P5.4: at most the capacity, and one for each refill ticks between, whatever is asked, and when.
func TestNoMoreIsTakenThanMayBe(t *testing.T) {
	pick := picker()
	for _, capacity := range []int{0, 1, 2, 5, 16} {
		for _, refill := range []int{1, 2, 3, 10} {
			b, tick := made(t, capacity, refill), 0
			var taken []int
			for range 400 {
				now := tick + pick(2*refill+1) - refill/2
				if pick(30) == 0 {
					now += capacity * refill
				}
				tick = max(tick, now)
				for range pick(4) {
					if b.Take(now) {
						taken = append(taken, tick)
					}
				}
				b.Left(now)
			}
			checkTaken(t, taken, capacity, refill)
		}
	}
}

func checkTaken(t *testing.T, taken []int, capacity, refill int) {
	t.Helper()
	for i, from := range taken {
		for j, to := range taken[i:] {
			if most := capacity + (to-from)/refill; j+1 > most {
				t.Fatalf("capacity %d, refill %d: %d were taken from %d to %d, not at most %d", capacity, refill, j+1, from, to, most)
			}
		}
	}
}

// Who takes whenever there is one gets just so many: no token is lost.
func TestAsManyAreTakenAsMayBe(t *testing.T) {
	for capacity := 0; capacity <= 16; capacity++ {
		for _, refill := range []int{1, 2, 3, 10} {
			b, taken := made(t, capacity, refill), 0
			for now := range 300 {
				for b.Take(now) {
					taken++
				}
				want := capacity + now/refill
				if capacity == 0 {
					want = 0
				}
				if taken != want {
					t.Fatalf("capacity %d, refill %d: %d were taken up to %d, not %d", capacity, refill, taken, now, want)
				}
			}
		}
	}
}

// P5.4: left alone for capacity times refill ticks, it is full, whatever was taken.
func TestLeftAloneItIsFull(t *testing.T) {
	pick := picker()
	for capacity := 0; capacity <= 16; capacity++ {
		for _, refill := range []int{1, 2, 3, 10, lastTick / 64} {
			b := made(t, capacity, refill)
			for now := range 50 {
				if pick(2) == 0 {
					b.Take(now)
				}
				checkLeft(t, b.Copy(), now+capacity*refill, capacity)
				takeAll(t, b.Copy(), now+capacity*refill, capacity)
			}
			takeAll(t, b, 50, b.Left(50))
			c := b.Copy()
			if n := c.Left(50 + capacity*refill - refill); capacity > 0 && n != capacity-1 && n != capacity {
				t.Errorf("capacity %d, refill %d: one token less is due, and %d are there", capacity, refill, n)
			}
		}
	}
}

// Asked or not asked between: it is the same at a tick.
func TestLeftBetweenChangesNothing(t *testing.T) {
	for _, capacity := range []int{1, 2, 5} {
		for _, refill := range []int{1, 3, 10} {
			asked, alone := made(t, capacity, refill), made(t, capacity, refill)
			for now := range 400 {
				asked.Left(now)
				if now%7 == 0 || now%5 == 3 {
					checkTake(t, asked, now, alone.Take(now))
				}
			}
			checkLeft(t, asked, 400, alone.Left(400))
		}
	}
}

// The rule R2: what was asked ahead decides alone, whatever is asked of others between.
func TestTheSameStepsAreAnsweredTheSame(t *testing.T) {
	for _, capacity := range []int{0, 1, 2, 16} {
		a, b, other := made(t, capacity, 10), made(t, capacity, 10), made(t, 3, 4)
		for n := range 2000 {
			now := n*3 - n%11
			first := a.Take(now)
			other.Take(n)
			if second := b.Take(now); first != second || a.Left(now) != b.Left(now) {
				t.Fatalf("capacity %d, step %d: %t and %t", capacity, n, first, second)
			}
		}
	}
}
