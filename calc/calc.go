// Package calc is layer 1, whole numbers of 64 bits that fit, or do not: see shared/doc/01-calc.md.
package calc

// Add tells the sum, or false where it is no int64.
func Add(a, b int64) (int64, bool) {
	sum := a + b
	// A sum that went round lies on the wrong side of a.
	if (sum < a) != (b < 0) {
		return 0, false
	}
	return sum, true
}

// Sub tells the difference, or false where it is no int64.
func Sub(a, b int64) (int64, bool) {
	difference := a - b
	// A difference that went round lies on the wrong side of a.
	if (difference > a) != (b < 0) {
		return 0, false
	}
	return difference, true
}

// Mul tells the product, or false where it is no int64.
func Mul(a, b int64) (int64, bool) {
	return product(a, b).narrow()
}

// Neg tells 0 less a, or false where that is no int64.
func Neg(a int64) (int64, bool) {
	return Sub(0, a)
}

// Size tells a without its sign.
func Size(a int64) uint64 {
	if a < 0 {
		// Turned as a uint64, so that -2^63 comes to 2^63 too.
		return -uint64(a)
	}
	return uint64(a)
}

// Total tells the sum of all of l, or false where it is no int64; only the last sum has to fit.
func Total(l ...int64) (int64, bool) {
	var sum wide
	for _, v := range l {
		sum = sum.plus(v)
	}
	return sum.narrow()
}

// Cmp tells -1, 0, 1, as a times b is below, just, above c times d.
func Cmp(a, b, c, d int64) int {
	return product(a, b).compare(product(c, d))
}
