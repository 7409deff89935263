package backoff_test

import (
	"math"
	"math/big"
	"testing"

	"fairway/backoff"
)

// plainGap is the wait as the chapter words it, by numbers without bounds.
func plainGap(tries, most int) int {
	if tries < 1 {
		return 0
	}
	if most < 0 {
		most = 0
	}
	if most > longest {
		most = longest
	}
	// 2 to the 100 is far above each most: a greater power would be no other answer.
	power := new(big.Int).Lsh(big.NewInt(1), uint(min(tries-1, 100)))
	if power.Cmp(big.NewInt(int64(most))) < 0 {
		return int(power.Int64())
	}
	return most
}

// P6.1 and P6.2: each wait, and all of them one by one, whatever most is.
func TestAgainstOneByOne(t *testing.T) {
	for _, most := range mosts() {
		sum := 0
		for tries := -3; tries <= 1000; tries++ {
			sum += plainGap(tries, most)
			checkGap(t, tries, most, plainGap(tries, most))
			checkSum(t, tries, most, sum)
		}
	}
}

// A long row, one by one: nothing is lost on the way.
func TestALongRowOneByOne(t *testing.T) {
	for _, most := range []int{-1, 0, 1, 2, 31, 63, 64, 65} {
		sum := 0
		for tries := 1; tries <= 200000; tries++ {
			sum += plainGap(tries, most)
			if got := backoff.Sum(tries, most); got != sum {
				t.Fatalf("Sum(%d, %d) = %d, not %d", tries, most, got, sum)
			}
		}
	}
}

// P6.3: more tries are never waited for less, and none longer than most.
func TestMoreTriesHaveNoLesserGap(t *testing.T) {
	for _, most := range mosts() {
		before := 0
		for tries := -3; tries <= 200; tries++ {
			gap := backoff.Gap(tries, most)
			if gap < before {
				t.Errorf("Gap(%d, %d) = %d: one try less had %d", tries, most, gap, before)
			}
			before = gap
		}
		for _, tries := range append(append(many(), below()...), 0, 1, 2, 3, 4, 5, 6) {
			gap := backoff.Gap(tries, most)
			if gap < 0 || gap > longest || gap > max(most, 0) {
				t.Errorf("Gap(%d, %d) = %d: beyond most", tries, most, gap)
			}
			if tries < math.MaxInt && backoff.Gap(tries+1, most) < gap {
				t.Errorf("Gap(%d, %d) = %d: one try more has less", tries, most, gap)
			}
		}
	}
}

// P6.3: Sum of one more is Sum and that one's Gap, up to as many tries as Sum counts.
func TestSumOfOneMore(t *testing.T) {
	for _, most := range mosts() {
		for _, tries := range append(append(many(), below()...), 0, 1, 2, 3, 4, 5, 6, lastNumber-3) {
			if tries >= lastNumber {
				continue
			}
			checkSum(t, tries+1, most, backoff.Sum(tries, most)+backoff.Gap(tries+1, most))
		}
	}
}

// A greater most is never waited for less, nor is the sum less.
func TestAGreaterMostHasNoLesserGap(t *testing.T) {
	for _, tries := range append(many(), -1, 0, 1, 2, 3, 4, 5, 6) {
		for most := -2; most < 70; most++ {
			if backoff.Gap(tries, most) > backoff.Gap(tries, most+1) {
				t.Errorf("Gap of %d with most %d is above that with one more", tries, most)
			}
			if backoff.Sum(tries, most) > backoff.Sum(tries, most+1) {
				t.Errorf("Sum of %d with most %d is above that with one more", tries, most)
			}
		}
	}
}

// The rules R1 and R2: each call ends without a panic, and answers the same when it is asked again, whatever is asked between.
func TestEachCallEndsAndAnswersTheSameAgain(t *testing.T) {
	all := append(append(mosts(), many()...), below()...)
	type answer struct{ gap, sum int }
	var first []answer
	for _, tries := range all {
		for _, most := range all {
			first = append(first, answer{backoff.Gap(tries, most), backoff.Sum(tries, most)})
		}
	}
	n := 0
	for _, tries := range all {
		for _, most := range all {
			again := answer{backoff.Gap(tries, most), backoff.Sum(tries, most)}
			if again != first[n] {
				t.Errorf("of %d, %d: %v, and again %v", tries, most, first[n], again)
			}
			n++
		}
	}
}
