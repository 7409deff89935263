package nums_test

import (
	"math"
	"math/big"
	"testing"

	"fairway/nums"
)

const (
	most  = math.MaxInt
	least = math.MinInt
)

// pair is two numbers that are handed in, and the answer that the document asks for.
type pair struct{ a, b, want int }

func checkPairs(t *testing.T, name string, call func(a, b int) int, pairs []pair) {
	t.Helper()
	for _, p := range pairs {
		if got := call(p.a, p.b); got != p.want {
			t.Errorf("%s(%d, %d) = %d, not %d", name, p.a, p.b, got, p.want)
		}
	}
}

// edges is ordinary numbers and those at which an answer may go beyond, or wrap round.
func edges() []int {
	l := []int{0, 1, 2, 3, 5, 7, 8, 10, 96, 1000, 65536, 46341, 3037000499, 3037000500, 1000000007, most / 2, most / 3, most - 2, most - 1, most}
	for power := range 63 {
		l = append(l, 1<<power, 1<<power-1)
	}
	for _, n := range l {
		l = append(l, -n, -n-1)
	}
	return l
}

// few is edges that are few enough to be gone through by threes.
func few() []int {
	return []int{least, least + 1, least + 2, least / 2, -3037000500, -1000, -7, -2, -1, 0, 1, 2, 3, 8, 1000, 3037000499, most / 3, most/2 + 1, most - 1, most}
}

func whole(n int) *big.Int { return big.NewInt(int64(n)) }

func isInt(n *big.Int) bool {
	return n.Cmp(whole(least)) >= 0 && n.Cmp(whole(most)) <= 0
}

// held is a true number, brought within the ints.
func held(n *big.Int) int {
	if n.Cmp(whole(most)) > 0 {
		return most
	}
	if n.Cmp(whole(least)) < 0 {
		return least
	}
	return int(n.Int64())
}

func trueSum(a, b int) *big.Int        { return new(big.Int).Add(whole(a), whole(b)) }
func trueDifference(a, b int) *big.Int { return new(big.Int).Sub(whole(a), whole(b)) }
func trueProduct(a, b int) *big.Int    { return new(big.Int).Mul(whole(a), whole(b)) }

// P1.1: the chapter's examples, ordinary numbers, and the edges in either place.
func TestAdd(t *testing.T) {
	checkPairs(t, "Add", nums.Add, []pair{
		{2, 3, 5}, {2, -3, -1}, {-2, -3, -5}, {0, 0, 0}, {7, 0, 7}, {0, 7, 7},
		{most, 1, most}, {1, most, most}, {most, most, most}, {most - 1, 1, most}, {most - 1, 2, most},
		{most, 0, most}, {0, most, most}, {most, -1, most - 1}, {-1, most, most - 1},
		{least, -1, least}, {-1, least, least}, {least, least, least}, {least + 1, -1, least}, {least + 1, -2, least},
		{least, 0, least}, {0, least, least}, {least, 1, least + 1}, {1, least, least + 1},
		{most, least, -1}, {least, most, -1},
	})
}

func TestSub(t *testing.T) {
	checkPairs(t, "Sub", nums.Sub, []pair{
		{2, 3, -1}, {3, 2, 1}, {2, -3, 5}, {-2, -3, 1}, {0, 0, 0}, {7, 0, 7}, {0, 7, -7},
		{least, 1, least}, {least + 1, 1, least}, {least + 1, 2, least}, {least, most, least}, {least, 0, least},
		{least, -1, least + 1}, {least, least, 0}, {-2, most, least}, {-1, most, least}, {0, most, -most},
		{most, -1, most}, {most - 1, -1, most}, {most - 1, -2, most}, {most, least, most}, {most, 0, most},
		{most, 1, most - 1}, {most, most, 0}, {0, least, most}, {1, least, most}, {-1, least, most}, {-2, least, most - 1},
	})
}

func TestMul(t *testing.T) {
	checkPairs(t, "Mul", nums.Mul, []pair{
		{2, 3, 6}, {2, -3, -6}, {-2, 3, -6}, {-2, -3, 6}, {0, 7, 0}, {7, 0, 0}, {1, 7, 7}, {7, 1, 7}, {-1, 7, -7}, {7, -1, -7},
		{least, -1, most}, {-1, least, most}, {least, 1, least}, {1, least, least}, {least, 0, 0}, {0, least, 0},
		{least, 2, least}, {2, least, least}, {least, -2, most}, {-2, least, most}, {least, least, most},
		{most, -1, -most}, {-1, most, -most}, {most, 1, most}, {1, most, most}, {most, 0, 0}, {0, most, 0},
		{most, 2, most}, {2, most, most}, {most, -2, least}, {-2, most, least}, {most, most, most},
		{most, least, least}, {least, most, least}, {least / 2, 2, least}, {2, least / 2, least}, {least / 2, -2, most},
		{1 << 32, 1 << 32, most}, {1 << 32, -1 << 32, least}, {1 << 31, 1 << 32, most}, {-1 << 31, 1 << 32, least},
		{3037000499, 3037000499, 9223372030926249001}, {3037000500, 3037000500, most}, {3037000500, -3037000500, least},
	})
}

func TestSumsDifferencesAndProductsAgainstTrueNumbers(t *testing.T) {
	for _, a := range edges() {
		for _, b := range edges() {
			if got, want := nums.Add(a, b), held(trueSum(a, b)); got != want {
				t.Errorf("Add(%d, %d) = %d, not %d", a, b, got, want)
			}
			if got, want := nums.Sub(a, b), held(trueDifference(a, b)); got != want {
				t.Errorf("Sub(%d, %d) = %d, not %d", a, b, got, want)
			}
			if got, want := nums.Mul(a, b), held(trueProduct(a, b)); got != want {
				t.Errorf("Mul(%d, %d) = %d, not %d", a, b, got, want)
			}
		}
	}
}

// P1.2: within, at and beyond both bounds, and hi below lo.
func TestClamp(t *testing.T) {
	for _, x := range []struct{ n, lo, hi, want int }{
		{5, 1, 3, 3}, {5, 7, 3, 7}, {0, 1, 3, 1}, {1, 1, 3, 1}, {2, 1, 3, 2}, {3, 1, 3, 3}, {4, 1, 3, 3},
		{2, 2, 2, 2}, {1, 2, 2, 2}, {3, 2, 2, 2}, {-5, -3, -1, -3}, {0, -3, -1, -1}, {-2, -3, -1, -2},
		{2, 7, 3, 7}, {9, 7, 3, 7}, {7, 7, 3, 7}, {3, 7, 3, 7}, {0, 1, -1, 1}, {0, 1, 0, 1}, {1, 1, 0, 1},
		{most, least, 0, 0}, {least, 0, most, 0}, {most, least, most, most}, {least, least, most, least}, {0, least, most, 0},
		{most, most, least, most}, {least, most, least, most}, {0, most, least, most}, {0, least, least, least}, {0, most, most, most},
	} {
		if got := nums.Clamp(x.n, x.lo, x.hi); got != x.want {
			t.Errorf("Clamp(%d, %d, %d) = %d, not %d", x.n, x.lo, x.hi, got, x.want)
		}
	}
}

func TestClampByThrees(t *testing.T) {
	for _, n := range few() {
		for _, lo := range few() {
			for _, hi := range few() {
				want := n
				if want > hi {
					want = hi
				}
				if want < lo {
					want = lo
				}
				if got := nums.Clamp(n, lo, hi); got != want {
					t.Errorf("Clamp(%d, %d, %d) = %d, not %d", n, lo, hi, got, want)
				}
			}
		}
	}
}

// P1.3: ordinary quotients, the edges, and what may not be divided.
func TestCeil(t *testing.T) {
	checkPairs(t, "Ceil", nums.Ceil, []pair{
		{7, 2, 4}, {8, 2, 4}, {9, 2, 5}, {7, 0, 0}, {0, 5, 0}, {1, 5, 1}, {5, 5, 1}, {6, 5, 2}, {5, 1, 5}, {1, 1, 1}, {0, 1, 0},
		{most, 1, most}, {most, 2, 1 << 62}, {most, most, 1}, {most - 1, most, 1}, {1, most, 1}, {0, most, 0}, {most, most - 1, 2},
		{-1, 5, 0}, {-7, 2, 0}, {least, 1, 0}, {least, most, 0}, {least, 2, 0},
		{5, 0, 0}, {5, -1, 0}, {5, least, 0}, {most, 0, 0}, {most, -1, 0}, {0, 0, 0}, {0, -1, 0},
		{-7, -2, 0}, {-1, 0, 0}, {least, -1, 0}, {least, least, 0}, {least, 0, 0},
	})
}

func TestRing(t *testing.T) {
	checkPairs(t, "Ring", nums.Ring, []pair{
		{-1, 5, 4}, {12, 5, 2}, {3, 0, 0}, {0, 5, 0}, {4, 5, 4}, {5, 5, 0}, {-5, 5, 0}, {-6, 5, 4}, {-4, 5, 1},
		{7, 1, 0}, {-7, 1, 0}, {0, 1, 0}, {1, 2, 1}, {-1, 2, 1},
		{least, 3, 1}, {least, 1, 0}, {least, 2, 0}, {least, most, most - 1}, {-1, most, most - 1},
		{most, most, 0}, {most, 3, 1}, {most, 1, 0}, {most - 1, most, most - 1}, {0, most, 0},
		{3, -1, 0}, {-3, -5, 0}, {3, least, 0}, {least, -1, 0}, {least, least, 0}, {least, 0, 0}, {most, 0, 0}, {0, 0, 0},
	})
}

func TestCeilAndRingAgainstTrueNumbers(t *testing.T) {
	for _, a := range edges() {
		for _, b := range edges() {
			ceil, ring := 0, 0
			if b >= 1 {
				ring = int(new(big.Int).Mod(whole(a), whole(b)).Int64())
			}
			if b >= 1 && a >= 0 {
				quotient, rest := new(big.Int).QuoRem(whole(a), whole(b), new(big.Int))
				ceil = int(quotient.Int64()) + rest.Sign()
			}
			if got := nums.Ceil(a, b); got != ceil {
				t.Errorf("Ceil(%d, %d) = %d, not %d", a, b, got, ceil)
			}
			if got := nums.Ring(a, b); got != ring {
				t.Errorf("Ring(%d, %d) = %d, not %d", a, b, got, ring)
			}
		}
	}
}

// P1.4: where all stays within, sums are the same in any order, and products of sums are sums of products.
func TestWhatStaysWithinIsWithoutBounds(t *testing.T) {
	sums, products := 0, 0
	for _, a := range few() {
		for _, b := range few() {
			for _, c := range few() {
				if isInt(trueSum(a, b)) && isInt(trueSum(b, c)) && isInt(trueSum(a, c)) {
					sums++
					checkSumsInAnyOrder(t, a, b, c)
				}
				if isInt(trueSum(b, c)) && isInt(trueProduct(a, b)) && isInt(trueProduct(a, c)) {
					products++
					checkProductOfSum(t, a, b, c)
				}
			}
		}
	}
	if sums == 0 || products == 0 {
		t.Error("nothing stayed within", sums, products)
	}
}

// checkSumsInAnyOrder takes numbers of which each two have a sum that is an int; that of all three may be none.
func checkSumsInAnyOrder(t *testing.T, a, b, c int) {
	t.Helper()
	want := held(new(big.Int).Add(trueSum(a, b), whole(c)))
	for _, x := range [][3]int{{a, b, c}, {a, c, b}, {b, a, c}, {b, c, a}, {c, a, b}, {c, b, a}} {
		if got := nums.Add(nums.Add(x[0], x[1]), x[2]); got != want {
			t.Errorf("Add(Add(%d, %d), %d) = %d, not %d", x[0], x[1], x[2], got, want)
		}
		if got := nums.Add(x[0], nums.Add(x[1], x[2])); got != want {
			t.Errorf("Add(%d, Add(%d, %d)) = %d, not %d", x[0], x[1], x[2], got, want)
		}
	}
	if got := nums.Sub(nums.Add(a, b), b); got != a {
		t.Errorf("Sub(Add(%d, %d), %d) = %d, not %d", a, b, b, got, a)
	}
}

// checkProductOfSum takes numbers of which the sum of b and c, and the product of a with each, are ints.
func checkProductOfSum(t *testing.T, a, b, c int) {
	t.Helper()
	want := held(new(big.Int).Add(trueProduct(a, b), trueProduct(a, c)))
	if got := nums.Mul(a, nums.Add(b, c)); got != want {
		t.Errorf("Mul(%d, Add(%d, %d)) = %d, not %d", a, b, c, got, want)
	}
	if got := nums.Mul(nums.Add(b, c), a); got != want {
		t.Errorf("Mul(Add(%d, %d), %d) = %d, not %d", b, c, a, got, want)
	}
	if got := nums.Add(nums.Mul(a, b), nums.Mul(a, c)); got != want {
		t.Errorf("Add(Mul(%d, %d), Mul(%d, %d)) = %d, not %d", a, b, a, c, got, want)
	}
}

func TestCeilIsTheLeastWhoseProductIsNotBelow(t *testing.T) {
	for _, a := range edges() {
		for _, b := range edges() {
			if a < 0 || b < 1 {
				continue
			}
			ceil := nums.Ceil(a, b)
			if trueProduct(ceil, b).Cmp(whole(a)) < 0 {
				t.Errorf("Ceil(%d, %d) = %d: its product is below", a, b, ceil)
			}
			if trueProduct(ceil-1, b).Cmp(whole(a)) >= 0 {
				t.Errorf("Ceil(%d, %d) = %d: one less would do", a, b, ceil)
			}
		}
	}
}

func TestRingIsTheSameOnceAround(t *testing.T) {
	for _, n := range edges() {
		for _, size := range edges() {
			if !isInt(trueSum(n, size)) || size < 1 {
				continue
			}
			here, around := nums.Ring(n, size), nums.Ring(n+size, size)
			if here != around {
				t.Errorf("Ring(%d, %d) = %d, but of %d: %d", n, size, here, n+size, around)
			}
			if here < 0 || here >= size {
				t.Errorf("Ring(%d, %d) = %d: not on it", n, size, here)
			}
		}
	}
}

// The rules R1 and R2: each call ends without a panic, and answers the same when it is asked again.
func TestEachCallEndsAndAnswersTheSameAgain(t *testing.T) {
	calls := []func(a, b, c int) int{
		func(a, b, _ int) int { return nums.Add(a, b) },
		func(a, b, _ int) int { return nums.Sub(a, b) },
		func(a, b, _ int) int { return nums.Mul(a, b) },
		nums.Clamp,
		func(a, b, _ int) int { return nums.Ceil(a, b) },
		func(a, b, _ int) int { return nums.Ring(a, b) },
	}
	for _, a := range few() {
		for _, b := range few() {
			for _, c := range few() {
				for i, call := range calls {
					first := call(a, b, c)
					if again := call(a, b, c); again != first {
						t.Errorf("call %d of %d, %d, %d: %d, and again %d", i, a, b, c, first, again)
					}
				}
			}
		}
	}
}
