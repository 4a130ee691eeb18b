// Package whole divides whole numbers, multiplies them beyond one word, and takes their roots, rounded as the name of the function says.
package whole

import "math/bits"

// Wide is the number Hi 2^64 + Lo.
type Wide struct {
	Hi, Lo uint64
}

// Product is a times b, of numbers that are not below 0.
func Product(a, b int64) Wide {
	hi, lo := bits.Mul64(uint64(a), uint64(b))
	return Wide{hi, lo}
}

// Less reports whether a is less than b.
func (a Wide) Less(b Wide) bool {
	return a.Hi < b.Hi || a.Hi == b.Hi && a.Lo < b.Lo
}

// Floor is a / b rounded down, for b above 0.
func Floor(a, b int64) int64 {
	q := a / b
	if a%b < 0 {
		q--
	}
	return q
}

// Ceil is a / b rounded up, for b above 0.
func Ceil(a, b int64) int64 {
	q := a / b
	if a%b > 0 {
		q++
	}
	return q
}

// PartFloor is a b / c rounded down, for a and b not below 0, c above 0, and a result that is an int64.
func PartFloor(a, b, c int64) int64 {
	q, _ := part(a, b, c)
	return q
}

// PartCeil is a b / c rounded up, for such numbers.
func PartCeil(a, b, c int64) int64 {
	q, rest := part(a, b, c)
	if rest > 0 {
		q++
	}
	return q
}

func part(a, b, c int64) (quotient, rest int64) {
	p := Product(a, b)
	q, r := bits.Div64(p.Hi, p.Lo, uint64(c))
	return int64(q), int64(r)
}

// RootFloor is the root of n rounded down, for n not below 0.
func RootFloor(n int64) int64 {
	root := int64(0)
	for bit := int64(1) << 31; bit > 0; bit >>= 1 {
		if next := root + bit; next <= n/next {
			root = next
		}
	}
	return root
}

// RootCeil is the root of n rounded up, for n not below 0.
func RootCeil(n int64) int64 {
	root := RootFloor(n)
	if root*root < n {
		root++
	}
	return root
}

// Sum is a + b of numbers that are not below 0, or the greatest int64 if it is greater.
func Sum(a, b int64) int64 {
	if s := a + b; s >= 0 {
		return s
	}
	return 1<<63 - 1
}

// Within reports whether n is from lo to hi.
func Within(n, lo, hi int64) bool {
	return lo <= n && n <= hi
}

// Abs is n without its sign, for n above the least int64.
func Abs(n int64) int64 {
	return max(n, -n)
}
