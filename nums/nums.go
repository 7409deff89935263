// Package nums is layer 1: integers that stay within the least and the greatest int (see shared/doc/01-nums.md).
package nums

import "math"

// Add is the sum; the greatest, or the least, int, if it would be beyond.
func Add(a, b int) int {
	sum := a + b
	if b > 0 && sum < a {
		return math.MaxInt
	}
	if b < 0 && sum > a {
		return math.MinInt
	}
	return sum
}

// Sub is the difference; the greatest, or the least, int, if it would be beyond.
func Sub(a, b int) int {
	// Not Add of a and -b: the least int has no negative.
	difference := a - b
	if b < 0 && difference < a {
		return math.MaxInt
	}
	if b > 0 && difference > a {
		return math.MinInt
	}
	return difference
}

// Mul is the product; the greatest, or the least, int, if it would be beyond.
func Mul(a, b int) int {
	if a == 0 || b == 0 {
		return 0
	}
	negative := (a < 0) != (b < 0)
	product := a * b
	// Dividing back does not find the least int times -1, which wraps to itself: its sign does.
	if product/b == a && (product < 0) == negative {
		return product
	}
	if negative {
		return math.MinInt
	}
	return math.MaxInt
}

// Clamp is n, brought to at most hi, then to at least lo: lo, if hi is below it.
func Clamp(n, lo, hi int) int {
	return max(lo, min(n, hi))
}

// Ceil is a divided by b, rounded up; 0, if b is below 1, or a below 0.
func Ceil(a, b int) int {
	if b < 1 || a < 0 {
		return 0
	}
	quotient := a / b
	// Not a + b - 1 divided by b: that sum may be beyond the greatest int.
	if a%b != 0 {
		quotient++
	}
	return quotient
}

// Ring is n's place on a ring of that size, from 0 on; 0, if size is below 1.
func Ring(n, size int) int {
	if size < 1 {
		return 0
	}
	place := n % size
	if place < 0 {
		place += size
	}
	return place
}
