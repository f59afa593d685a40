package code

import (
	"bytes"
	"encoding/binary"
	"math"
	"math/big"
	"slices"
	"testing"
)

// times: n bytes of one kind, and some more.
func times(n int, d byte, more ...byte) []byte {
	return append(bytes.Repeat([]byte{d}, n), more...)
}

type written struct {
	u uint64
	b []byte
}

// someWritten: numbers, and how the chapter has them written.
func someWritten() []written {
	return []written{
		{0, []byte{0}}, {1, []byte{1}}, {127, []byte{127}}, {128, []byte{0x80, 1}}, {255, []byte{0xff, 1}},
		{300, []byte{0xac, 2}}, {16383, []byte{0xff, 0x7f}}, {16384, []byte{0x80, 0x80, 1}},
		{1<<56 - 1, times(7, 0xff, 0x7f)}, {1 << 56, times(8, 0x80, 1)},
		{1<<63 - 1, times(8, 0xff, 0x7f)}, {1 << 63, times(9, 0x80, 1)},
		{math.MaxUint64 - 1, append([]byte{0xfe}, times(8, 0xff, 1)...)}, {math.MaxUint64, times(9, 0xff, 1)},
	}
}

// P2.2: the digits, behind what stands ahead of them.
func TestPut(t *testing.T) {
	aheads := [][]byte{nil, {}, {0}, {0x80}, {0xff, 0xff, 0xff}, {5, 6, 7, 8, 9}, times(300, 0x81)}
	for _, ahead := range aheads {
		for _, x := range someWritten() {
			if got, want := Put(ahead, x.u), slices.Concat(ahead, x.b); !bytes.Equal(got, want) {
				t.Errorf("Put(%x, %d): %x, not %x", ahead, x.u, got, want)
			}
		}
		for _, u := range unsigned() {
			want := binary.AppendUvarint(bytes.Clone(ahead), u)
			if got := Put(ahead, u); !bytes.Equal(got, want) {
				t.Errorf("Put(%x, %d): %x, not %x", ahead, u, got, want)
			}
		}
	}
}

// Rule 2: what is handed to Put stays as it is, its spare room too, and no two answers share memory with it or
// with each other, whatever room they were handed.
func TestPutOwnMemory(t *testing.T) {
	for room := range 16 {
		whole := times(2+room, 77)
		whole[0], whole[1] = 5, 6
		before := bytes.Clone(whole)
		one, two := Put(whole[:2], 300), Put(whole[:2], math.MaxUint64)
		if !bytes.Equal(whole, before) {
			t.Fatalf("with room for %d: handed in %x, left %x", room, before, whole)
		}
		keptTwo := bytes.Clone(two)
		fill(one, 1)
		if !bytes.Equal(whole, before) || !bytes.Equal(two, keptTwo) {
			t.Fatalf("with room for %d: a change of one answer changed %x or %x", room, whole, two)
		}
		fill(whole, 2)
		if !bytes.Equal(two, keptTwo) {
			t.Fatalf("with room for %d: a change of what was handed in changed the answer %x", room, two)
		}
	}
}

// fill changes all that b can reach, its spare room too.
func fill(b []byte, d byte) {
	b = b[:cap(b)]
	for i := range b {
		b[i] = d
	}
}

// numberAt: what the chapter says of Get, by numbers without an end.
func numberAt(b []byte) (uint64, int, bool) {
	sum := new(big.Int)
	for i, d := range b {
		digit := new(big.Int).SetUint64(uint64(d & 127))
		sum.Add(sum, digit.Lsh(digit, uint(7*i)))
		if d >= 128 {
			continue
		}
		if !sum.IsUint64() || i > 0 && d == 0 {
			return 0, 0, false
		}
		return sum.Uint64(), i + 1, true
	}
	return 0, 0, false
}

func holdGet(t *testing.T, b []byte) {
	t.Helper()
	u, n, ok := Get(b)
	if wantU, wantN, wantOK := numberAt(b); u != wantU || n != wantN || ok != wantOK {
		t.Fatalf("Get(%x): %d %d %v, not %d %d %v", b, u, n, ok, wantU, wantN, wantOK)
	}
}

// P2.2: the number that stands there, and its bytes.
func TestGet(t *testing.T) {
	for _, x := range someWritten() {
		if u, n, ok := Get(x.b); u != x.u || n != len(x.b) || !ok {
			t.Errorf("Get(%x): %d %d %v, not %d %d true", x.b, u, n, ok, x.u, len(x.b))
		}
	}
}

// P2.2: 0, 0, false where bytes end ahead of the last digit, where digits need not be there, where the number is
// above 2^64 - 1.
func TestGetOfNone(t *testing.T) {
	for _, b := range [][]byte{
		nil, {}, {0x80}, {0xff}, {0x80, 0x80}, {0xac, 0x82}, times(9, 0xff), times(10, 0xff), times(10, 0x80), times(1000, 0x80),
		{0x80, 0}, {0x81, 0}, {0xff, 0}, {0x80, 0, 1}, {0x80, 0x80, 0}, {0xac, 0x82, 0}, times(9, 0x80, 0), times(9, 0xff, 0), times(10, 0x80, 0),
		times(9, 0x80, 2), times(9, 0xff, 2), times(9, 0xff, 3), times(9, 0x80, 0x7f), times(9, 0xff, 0x7f),
		times(9, 0xff, 0x81), times(9, 0xff, 0x81, 0), times(9, 0x80, 0x82, 0), times(10, 0x80, 1), times(10, 0xff, 1), times(100, 0x80, 1), times(100, 0xff, 1),
	} {
		if u, n, ok := Get(b); u != 0 || n != 0 || ok {
			t.Errorf("Get(%x): %d %d %v, not 0 0 false", b, u, n, ok)
		}
	}
}

// P2.2: all short bytes, and the long ones about the last digits of 64 bits, held against the number itself.
func TestGetOfAll(t *testing.T) {
	for a := range 256 {
		holdGet(t, []byte{byte(a)})
		for b := range 256 {
			holdGet(t, []byte{byte(a), byte(b)})
			for _, c := range []byte{0, 1, 0x7f, 0x80, 0xff} {
				holdGet(t, []byte{byte(a), byte(b), c})
			}
		}
	}
	for n := range 12 {
		for _, d := range []byte{0x80, 0x81, 0xff} {
			for a := range 256 {
				holdGet(t, times(n, d, byte(a)))
				for _, b := range []byte{0, 1, 2, 0x7f, 0x80, 0x81, 0xff} {
					holdGet(t, times(n, d, byte(a), b))
				}
			}
		}
	}
}

// Rule 2: what is handed to Get stays as it is.
func TestGetLeavesItsBytes(t *testing.T) {
	whole := []byte{0xac, 2, 9, 8}
	Get(whole[:2])
	Get(whole[:1])
	if want := []byte{0xac, 2, 9, 8}; !bytes.Equal(whole, want) {
		t.Errorf("the bytes are %x, not %x", whole, want)
	}
}

// P2.3: what is put is got, whatever is behind it.
func TestPutIsGot(t *testing.T) {
	behinds := [][]byte{nil, {0}, {1}, {0x80}, {0xff}, {0x80, 0}, times(12, 0xff), times(12, 0x80, 1)}
	for _, u := range unsigned() {
		b := Put(nil, u)
		for _, behind := range behinds {
			all := slices.Concat(b, behind)
			if v, n, ok := Get(all); v != u || n != len(b) || !ok {
				t.Errorf("Get(%x): %d %d %v, not %d %d true", all, v, n, ok, u, len(b))
			}
		}
		for cut := range b {
			if v, n, ok := Get(b[:cut]); v != 0 || n != 0 || ok {
				t.Errorf("Get(%x): %d %d %v, not 0 0 false", b[:cut], v, n, ok)
			}
		}
	}
}

// P2.3: so a row of numbers, put one behind the other, is got in its order, and nothing is left.
func TestManyPutAreGot(t *testing.T) {
	var b []byte
	for _, u := range unsigned() {
		b = Put(b, u)
	}
	for _, u := range unsigned() {
		v, n, ok := Get(b)
		if v != u || !ok {
			t.Fatalf("%d %v, not %d true", v, ok, u)
		}
		b = b[n:]
	}
	if len(b) != 0 {
		t.Errorf("%x is left", b)
	}
}
