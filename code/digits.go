package code

const (
	digitBits = 7
	// more is added to each digit behind which another one comes.
	more = 1 << digitBits
	// mostDigits are as many as a number of 64 bits may need.
	mostDigits = 10
)

// digits are a number's, the lowest first; those behind the first n are 0.
type digits struct {
	list [mostDigits]byte
	n    int
}

// digitsOf shifts u's digits out of it, as few as can be.
func digitsOf(u uint64) digits {
	var d digits
	for u >= more {
		d.list[d.n] = byte(u%more) | more
		d.n++
		u >>= digitBits
	}
	d.list[d.n] = byte(u)
	d.n++
	return d
}

// Put tells b, and u's digits behind it, in memory of its own: b's spare room is its owner's.
func Put(b []byte, u uint64) []byte {
	d := digitsOf(u)
	all := make([]byte, 0, len(b)+d.n)
	all = append(all, b...)
	return append(all, d.list[:d.n]...)
}

// Get tells the number at b's beginning and how many bytes it has, or false where none stands there as Put
// writes it.
func Get(b []byte) (uint64, int, bool) {
	var u uint64
	for i, d := range b[:min(len(b), mostDigits)] {
		digit, shift := uint64(d%more), i*digitBits
		u |= digit << shift
		// Of a digit that reaches above 64 bits not all comes back.
		if u>>shift != digit {
			return 0, 0, false
		}
		if d >= more {
			continue
		}
		if digit == 0 && i > 0 {
			return 0, 0, false
		}
		return u, i + 1, true
	}
	return 0, 0, false
}
