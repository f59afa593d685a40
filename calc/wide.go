package calc

import (
	"cmp"
	"math/bits"
)

// wide is a whole number of 128 bits (high times 2^64, and low): there is room in it for a product of any
// two int64, and for the sum of as many of them as a list can hold.
type wide struct {
	high int64
	low  uint64
}

// product is a times b, whole.
func product(a, b int64) wide {
	high, low := bits.Mul64(Size(a), Size(b))
	// The product of two sizes is at most 2^126, so its high half fits an int64.
	w := wide{int64(high), low}
	if (a < 0) != (b < 0) {
		return w.turned()
	}
	return w
}

// turned is 0 less w.
func (w wide) turned() wide {
	low, borrow := bits.Sub64(0, w.low, 0)
	high, _ := bits.Sub64(0, uint64(w.high), borrow)
	return wide{int64(high), low}
}

// plus is the sum of w and v.
func (w wide) plus(v int64) wide {
	low, carry := bits.Add64(w.low, uint64(v), 0)
	high, _ := bits.Add64(uint64(w.high), uint64(signHalf(v)), carry)
	return wide{int64(high), low}
}

// narrow is w as an int64, or false where it is none.
func (w wide) narrow() (int64, bool) {
	v := int64(w.low)
	if w.high != signHalf(v) {
		return 0, false
	}
	return v, true
}

// compare is -1, 0, 1, as w is below, just, above o.
func (w wide) compare(o wide) int {
	if w.high != o.high {
		return cmp.Compare(w.high, o.high)
	}
	return cmp.Compare(w.low, o.low)
}

// signHalf is the high half of v as a wide: its sign, in every bit.
func signHalf(v int64) int64 {
	return v >> 63
}
