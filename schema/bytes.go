package schema

import (
	"cuboid/api"
	"cuboid/code"
)

// greatest: no number of a catalog that may be is above it.
const greatest = api.MaxMembers

// Bytes tells c's numbers one behind the other, none of a c that may not be.
func Bytes(c api.Catalog) []byte {
	if !Good(c) {
		return nil
	}
	b := put(nil, c.Measures)
	b = put(b, len(c.Dims))
	for dim := range len(c.Dims) {
		b = putDim(b, c.Dims[dim])
	}
	return b
}

// putDim puts the numbers of a good d behind b.
func putDim(b []byte, d api.Dim) []byte {
	levels := len(d.Sizes)
	b = put(b, levels)
	for level := range levels {
		b = put(b, d.Sizes[level])
	}
	for level := range levels - 1 {
		for m := range d.Sizes[level] {
			b = put(b, d.Up[level][m])
		}
	}
	return b
}

// put hands code.Put the number alone: handed b too, it would copy all of b each time.
func put(b []byte, n int) []byte {
	return append(b, code.Put(nil, uint64(n))...)
}

// Read tells the catalog that may be and whose Bytes are b, or false where there is none.
func Read(b []byte) (api.Catalog, bool) {
	r := reader{left: b}
	c := api.Catalog{Measures: r.number()}
	for range r.number() {
		c.Dims = append(c.Dims, r.dim())
	}
	if r.stuck || len(r.left) > 0 || !Good(c) {
		return api.Catalog{}, false
	}
	return c, true
}

// reader takes numbers off the beginning of bytes. Where one is not there it is stuck, and all that it tells from then
// on is 0.
type reader struct {
	left  []byte
	stuck bool
}

// number takes one that a catalog that may be can have, so that what is counted by it stays small.
func (r *reader) number() int {
	u, n, ok := code.Get(r.left)
	if r.stuck || !ok || u > greatest {
		r.stuck = true
		return 0
	}
	r.left = r.left[n:]
	return int(u)
}

// list takes so many numbers.
func (r *reader) list(n int) []int {
	all := make([]int, n)
	for m := range n {
		all[m] = r.number()
	}
	return all
}

// dim takes a dimension; whether it may be is left to Good.
func (r *reader) dim() api.Dim {
	d := api.Dim{Sizes: r.list(r.number())}
	for level := range len(d.Sizes) - 1 {
		d.Up = append(d.Up, r.list(d.Sizes[level]))
	}
	return d
}
