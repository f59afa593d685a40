package code

import (
	"encoding/binary"
	"math"
	"math/big"
	"slices"
	"testing"

	"cuboid/api"
)

// signed: small numbers, and those beside which a bit or a byte more is needed, rising.
func signed() []int64 {
	l := []int64{math.MinInt64, math.MinInt64 + 1, math.MaxInt64}
	for i := range 63 {
		for _, v := range []int64{1<<i - 1, 1 << i, 1<<i + 1} {
			l = append(l, v, -v)
		}
	}
	slices.Sort(l)
	return slices.Compact(l)
}

// unsigned: what the signed ones are as they stand, and the edges that the chapter names.
func unsigned() []uint64 {
	l := []uint64{0, 127, 128, 300, 16383, 16384, 1<<63 - 1, 1 << 63, math.MaxUint64 - 1, math.MaxUint64}
	for _, v := range signed() {
		l = append(l, uint64(v))
	}
	return l
}

// P2.1: v's bits with the highest one turned, which is 2^63 more than v; and back.
func TestFlip(t *testing.T) {
	for _, x := range []struct {
		v int64
		u uint64
	}{
		{math.MinInt64, 0}, {math.MinInt64 + 1, 1}, {-300, 1<<63 - 300}, {-1, 1<<63 - 1}, {0, 1 << 63},
		{1, 1<<63 + 1}, {300, 1<<63 + 300}, {math.MaxInt64, math.MaxUint64},
	} {
		if got := Flip(x.v); got != x.u {
			t.Errorf("Flip(%d): %d, not %d", x.v, got, x.u)
		}
		if got := Back(x.u); got != x.v {
			t.Errorf("Back(%d): %d, not %d", x.u, got, x.v)
		}
	}
	half := new(big.Int).Lsh(big.NewInt(1), 63)
	for _, v := range signed() {
		want := new(big.Int).Add(big.NewInt(v), half).Uint64()
		if got := Flip(v); got != want {
			t.Errorf("Flip(%d): %d, not %d", v, got, want)
		}
		if got := Back(want); got != v {
			t.Errorf("Back(%d): %d, not %d", want, got, v)
		}
	}
	for _, u := range unsigned() {
		if got := Flip(Back(u)); got != u {
			t.Errorf("Flip(Back(%d)): %d", u, got)
		}
	}
}

// P2.1: Flip(a) is below Flip(b) just if a is below b.
func TestFlipKeepsOrder(t *testing.T) {
	for _, a := range signed() {
		for _, b := range signed() {
			if (Flip(a) < Flip(b)) != (a < b) {
				t.Errorf("Flip(%d) is %d, Flip(%d) is %d", a, Flip(a), b, Flip(b))
			}
		}
	}
}

// zigOf: what the chapter says of Zig, by numbers without an end.
func zigOf(v int64) uint64 {
	twice := new(big.Int).Lsh(new(big.Int).Abs(big.NewInt(v)), 1)
	if v < 0 {
		twice.Sub(twice, big.NewInt(1))
	}
	return twice.Uint64()
}

// P2.1: twice v, or twice its size, less 1; and back.
func TestZig(t *testing.T) {
	for _, x := range []struct {
		v int64
		u uint64
	}{
		{0, 0}, {-1, 1}, {1, 2}, {-2, 3}, {2, 4}, {-300, 599}, {300, 600},
		{math.MinInt64, math.MaxUint64}, {math.MinInt64 + 1, math.MaxUint64 - 2}, {math.MaxInt64, math.MaxUint64 - 1},
	} {
		if got := Zig(x.v); got != x.u {
			t.Errorf("Zig(%d): %d, not %d", x.v, got, x.u)
		}
		if got := Zag(x.u); got != x.v {
			t.Errorf("Zag(%d): %d, not %d", x.u, got, x.v)
		}
	}
	for _, v := range signed() {
		want := zigOf(v)
		if got := Zig(v); got != want {
			t.Errorf("Zig(%d): %d, not %d", v, got, want)
		}
		if got := Zag(want); got != v {
			t.Errorf("Zag(%d): %d, not %d", want, got, v)
		}
	}
	for _, u := range unsigned() {
		if got := Zig(Zag(u)); got != u {
			t.Errorf("Zig(Zag(%d)): %d", u, got)
		}
	}
}

// P2.1: the bytes of a place, the first the highest; and back.
func TestKey(t *testing.T) {
	for _, x := range []struct {
		c api.Coord
		k uint32
	}{
		{api.Coord{}, 0}, {api.Coord{1, 2, 3, 4}, 0x01020304}, {api.Coord{255, 255, 255, 255}, math.MaxUint32},
		{api.Coord{255, 0, 0, 0}, 0xff000000}, {api.Coord{0, 255, 0, 0}, 0xff0000},
		{api.Coord{0, 0, 255, 0}, 0xff00}, {api.Coord{0, 0, 0, 255}, 0xff}, {api.Coord{128, 127, 0, 1}, 0x807f0001},
	} {
		if got := Key(x.c); got != x.k {
			t.Errorf("Key(%d): %x, not %x", x.c, got, x.k)
		}
		if got := At(x.k); got != x.c {
			t.Errorf("At(%x): %d, not %d", x.k, got, x.c)
		}
	}
}

// P2.1: all places of some bytes, the edges 0 and 255 among them.
func TestKeyOfEdges(t *testing.T) {
	some := []uint8{0, 1, 2, 39, 127, 128, 254, 255}
	for _, a := range some {
		for _, b := range some {
			for _, c := range some {
				for _, d := range some {
					place := api.Coord{a, b, c, d}
					want := binary.BigEndian.Uint32([]byte{a, b, c, d})
					if got := Key(place); got != want {
						t.Fatalf("Key(%d): %x, not %x", place, got, want)
					}
					if got := At(want); got != place {
						t.Fatalf("At(%x): %d, not %d", want, got, place)
					}
				}
			}
		}
	}
}
