package backoff_test

import (
	"math"
	"testing"

	"fairway/backoff"
)

// lastNumber is the greatest number of tries that Sum counts; longest is the longest wait that there is.
const (
	lastNumber = 1 << 40
	longest    = 64
)

// wait is an answer that the document asks for.
type wait struct{ tries, most, want int }

func checkGap(t *testing.T, tries, most, want int) {
	t.Helper()
	if got := backoff.Gap(tries, most); got != want {
		t.Errorf("Gap(%d, %d) = %d, not %d", tries, most, got, want)
	}
}

func checkSum(t *testing.T, tries, most, want int) {
	t.Helper()
	if got := backoff.Sum(tries, most); got != want {
		t.Errorf("Sum(%d, %d) = %d, not %d", tries, most, got, want)
	}
}

// below is numbers that are below 0: no tries, and no wait.
func below() []int {
	l := []int{-1, -2, -3, -7, -8, -9, -63, -64, -65, -100, -1000, math.MinInt, math.MinInt + 1, math.MinInt + 2, math.MinInt + longest}
	for power := 10; power < 63; power++ {
		l = append(l, -1<<power, -1<<power-1, -1<<power+1)
	}
	return l
}

// many is numbers of tries behind which each wait is the longest.
func many() []int {
	l := []int{7, 8, 9, 10, 16, 17, 31, 32, 33, 62, 63, 64, 65, 66, 100, 127, 128, 129, 1000, math.MaxInt, math.MaxInt - 1, math.MaxInt - longest}
	for power := 8; power < 63; power++ {
		l = append(l, 1<<power-1, 1<<power, 1<<power+1)
	}
	return l
}

// above is numbers that are above the longest wait: they are that one.
func above() []int {
	l := []int{65, 66, 96, 100, 127, 128, 129, 1000, math.MaxInt, math.MaxInt - 1, math.MaxInt - longest}
	for power := 8; power < 63; power++ {
		l = append(l, 1<<power-1, 1<<power, 1<<power+1)
	}
	return l
}

// mosts is each wait that may be, and others far below and far above them.
func mosts() []int {
	l := append(below(), above()...)
	for most := range longest + 1 {
		l = append(l, most)
	}
	return l
}

// The chapter's examples.
func TestExamples(t *testing.T) {
	checkGap(t, 1, 5, 1)
	checkGap(t, 2, 5, 2)
	checkGap(t, 4, 5, 5)
	checkGap(t, 9, 100, 64)
	checkSum(t, 4, 5, 12)
	checkSum(t, 3, 0, 0)
}

// P6.1: the first waits, with a most below, at and above them.
func TestGap(t *testing.T) {
	for _, x := range []wait{
		{1, 1, 1}, {2, 1, 1}, {3, 1, 1}, {7, 1, 1}, {8, 1, 1}, {9, 1, 1}, {1 << 40, 1, 1}, {math.MaxInt, 1, 1},
		{1, 2, 1}, {2, 2, 2}, {3, 2, 2}, {7, 2, 2}, {8, 2, 2}, {9, 2, 2}, {1 << 40, 2, 2}, {math.MaxInt, 2, 2},
		{1, 3, 1}, {2, 3, 2}, {3, 3, 3}, {4, 3, 3}, {8, 3, 3}, {math.MaxInt, 3, 3},
		{1, 4, 1}, {2, 4, 2}, {3, 4, 4}, {4, 4, 4}, {9, 4, 4},
		{1, 5, 1}, {2, 5, 2}, {3, 5, 4}, {4, 5, 5}, {5, 5, 5}, {9, 5, 5},
		{1, 33, 1}, {2, 33, 2}, {3, 33, 4}, {4, 33, 8}, {5, 33, 16}, {6, 33, 32}, {7, 33, 33}, {8, 33, 33}, {9, 33, 33},
		{1, 63, 1}, {2, 63, 2}, {3, 63, 4}, {4, 63, 8}, {5, 63, 16}, {6, 63, 32}, {7, 63, 63}, {8, 63, 63}, {9, 63, 63}, {math.MaxInt, 63, 63},
		{1, 64, 1}, {2, 64, 2}, {3, 64, 4}, {4, 64, 8}, {5, 64, 16}, {6, 64, 32}, {7, 64, 64}, {8, 64, 64}, {9, 64, 64}, {math.MaxInt, 64, 64},
		{1, 65, 1}, {2, 65, 2}, {3, 65, 4}, {4, 65, 8}, {5, 65, 16}, {6, 65, 32}, {7, 65, 64}, {8, 65, 64}, {9, 65, 64}, {math.MaxInt, 65, 64},
	} {
		checkGap(t, x.tries, x.most, x.want)
	}
}

// Whatever most is: no tries are not waited for.
func TestNoTries(t *testing.T) {
	for _, tries := range append(below(), 0) {
		for _, most := range mosts() {
			checkGap(t, tries, most, 0)
			checkSum(t, tries, most, 0)
		}
	}
}

// A most below 0 is 0: however many tries there are, none is waited for.
func TestNoWait(t *testing.T) {
	for _, most := range append(below(), 0) {
		for _, tries := range append(many(), 0, 1, 2, 3, 4, 5, 6) {
			checkGap(t, tries, most, 0)
			checkSum(t, tries, most, 0)
		}
	}
}

// A most above the longest wait is that one.
func TestMostAboveTheLongestWait(t *testing.T) {
	for _, most := range append(above(), longest) {
		gap, sum := 1, 0
		for tries := 1; tries <= 7; tries++ {
			sum += gap
			checkGap(t, tries, most, gap)
			checkSum(t, tries, most, sum)
			gap *= 2
		}
		for _, tries := range many() {
			checkGap(t, tries, most, 64)
			checkSum(t, tries, most, 127+64*(min(tries, lastNumber)-7))
		}
	}
}

// Behind the seventh try each wait is most itself, whatever that is.
func TestManyTries(t *testing.T) {
	for most := range longest + 1 {
		for _, tries := range many() {
			checkGap(t, tries, most, most)
		}
	}
}

// P6.2: the first sums, by hand.
func TestSum(t *testing.T) {
	for _, x := range []wait{
		{-1, 1, 0}, {0, 1, 0}, {1, 1, 1}, {2, 1, 2}, {7, 1, 7}, {8, 1, 8}, {9, 1, 9}, {1000, 1, 1000},
		{0, 2, 0}, {1, 2, 1}, {2, 2, 3}, {3, 2, 5}, {7, 2, 13}, {8, 2, 15}, {9, 2, 17},
		{1, 3, 1}, {2, 3, 3}, {3, 3, 6}, {4, 3, 9}, {7, 3, 18},
		{1, 4, 1}, {2, 4, 3}, {3, 4, 7}, {4, 4, 11},
		{1, 5, 1}, {2, 5, 3}, {3, 5, 7}, {4, 5, 12}, {5, 5, 17}, {100, 5, 492},
		{6, 33, 63}, {7, 33, 96}, {8, 33, 129}, {9, 33, 162},
		{6, 63, 63}, {7, 63, 126}, {8, 63, 189}, {9, 63, 252},
		{-1, 64, 0}, {0, 64, 0}, {1, 64, 1}, {2, 64, 3}, {3, 64, 7}, {4, 64, 15}, {5, 64, 31}, {6, 64, 63}, {7, 64, 127}, {8, 64, 191}, {9, 64, 255},
		{-1, 65, 0}, {0, 65, 0}, {1, 65, 1}, {7, 65, 127}, {8, 65, 191}, {9, 65, 255}, {9, math.MaxInt, 255},
		{-1, -1, 0}, {0, -1, 0}, {1, -1, 0}, {7, -1, 0}, {8, 0, 0}, {9, 0, 0},
	} {
		checkSum(t, x.tries, x.most, x.want)
	}
}

// As many tries as Sum counts, and more of them: these are the same.
func TestSumOfAsManyTriesAsThereMayBe(t *testing.T) {
	for _, x := range []struct{ most, want int }{
		{math.MinInt, 0}, {-1, 0}, {0, 0}, {1, 1 << 40}, {2, 1<<41 - 1}, {3, 3298534883325}, {5, 5497558138872},
		{63, 69269232549573}, {64, 70368744177343}, {65, 70368744177343}, {math.MaxInt, 70368744177343},
	} {
		for _, tries := range []int{lastNumber, lastNumber + 1, lastNumber + 2, 1 << 41, 1 << 57, 1 << 58, 1 << 62, math.MaxInt - 1, math.MaxInt} {
			checkSum(t, tries, x.most, x.want)
		}
		last := min(max(x.most, 0), longest)
		checkSum(t, lastNumber-1, x.most, x.want-last)
		checkSum(t, lastNumber-2, x.most, x.want-2*last)
	}
}
