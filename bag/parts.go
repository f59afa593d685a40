package bag

import "cuboid/calc"

const (
	partBits = 22
	partMask = 1<<partBits - 1
)

// parts is a sum of two bags' values, those of one less those of the other, that need not be an int64: high times 2^44,
// middle times 2^22, and low. A value has at most 2^22 of each, and a bag at most 2^40 values: none of the three can go
// round, to either side.
type parts struct{ high, middle, low int64 }

// plus is the sum of p and of n times v.
func (p parts) plus(v, n int64) parts {
	return parts{
		high:   p.high + (v>>(2*partBits))*n,
		middle: p.middle + (v>>partBits&partMask)*n,
		low:    p.low + (v&partMask)*n,
	}
}

// narrow is p as an int64, or false where it is none.
func (p parts) narrow() (int64, bool) {
	middle := p.middle + (p.low >> partBits)
	high, ok := calc.Mul(p.high+(middle>>partBits), 1<<(2*partBits))
	// What is left is from 0 to below 2^44: no high that fits goes beyond an int64 by it, and none that does not comes
	// back.
	if !ok {
		return 0, false
	}
	return calc.Add(high, (middle&partMask)<<partBits+(p.low&partMask))
}
