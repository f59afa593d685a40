package row

import (
	"bytes"
	"encoding/binary"
	"math"
	"slices"
	"testing"

	"cuboid/api"
)

// bytesOf: what the chapter says of Bytes; binary's numbers with a sign are folded and written as code's are.
func bytesOf(r api.Row) []byte {
	b := slices.Clone(r.At[:])
	b = binary.AppendVarint(b, r.M[0])
	return binary.AppendVarint(b, r.M[1])
}

// numberAt: the number at b's beginning, if it has as few digits as can be, and how many bytes it has.
func numberAt(b []byte) (int64, int, bool) {
	v, n := binary.Varint(b)
	return v, n, n > 0 && n == len(binary.AppendVarint(nil, v))
}

// rowAt: what the chapter says of Read.
func rowAt(b []byte) (api.Row, int, bool) {
	if len(b) < 4 {
		return api.Row{}, 0, false
	}
	first, n, ok := numberAt(b[4:])
	if !ok {
		return api.Row{}, 0, false
	}
	second, m, ok := numberAt(b[4+n:])
	if !ok {
		return api.Row{}, 0, false
	}
	return api.Row{At: api.Coord{b[0], b[1], b[2], b[3]}, M: [api.MaxMeasures]int64{first, second}}, 4 + n + m, true
}

func holdRead(t *testing.T, b []byte) {
	t.Helper()
	want, size, is := rowAt(b)
	if got, n, ok := Read(b); got != want || n != size || ok != is {
		t.Fatalf("Read(%x): %v %d %v, not %v %d %v", b, got, n, ok, want, size, is)
	}
}

func holdNone(t *testing.T, b []byte) {
	t.Helper()
	if r, n, ok := Read(b); r != (api.Row{}) || n != 0 || ok {
		t.Fatalf("Read(%x): %v %d %v, not zero 0 false", b, r, n, ok)
	}
}

// rows: places of small and great bytes, with the numbers in either measure and in both.
func rows() []api.Row {
	all := rising()
	for i, v := range numbers() {
		for _, at := range []api.Coord{{}, {1, 2, 3, 255}, {128, 128, 128, 128}, {255, 255, 255, 255}} {
			all = append(all, api.Row{At: at, M: [2]int64{v, 0}}, api.Row{At: at, M: [2]int64{0, v}}, api.Row{At: at, M: [2]int64{v, numbers()[(i*7)%len(numbers())]}})
		}
	}
	return all
}

// behinds: what may stand behind a row.
func behinds() [][]byte {
	return [][]byte{nil, {0}, {1}, {127}, {0x80}, {0xff}, {0x80, 0}, {1, 0, 0, 0, 1, 10}, bytes.Repeat([]byte{0xff}, 30), bytes.Repeat([]byte{0x80}, 30)}
}

type written struct {
	r api.Row
	b []byte
}

// someWritten: the chapter's example, and some more rows as it has them written.
func someWritten() []written {
	long := bytes.Repeat([]byte{0xff}, 9)
	return []written{
		{of(1, 0, -1, 5), []byte{1, 0, 0, 0, 1, 10}},
		{api.Row{}, []byte{0, 0, 0, 0, 0, 0}},
		{of(0, 0, -64, 63), []byte{0, 0, 0, 0, 127, 126}},
		{of(0, 0, 64, -65), []byte{0, 0, 0, 0, 0x80, 1, 0x81, 1}},
		{api.Row{At: api.Coord{4, 3, 2, 1}, M: [2]int64{150, -150}}, []byte{4, 3, 2, 1, 0xac, 2, 0xab, 2}},
		{api.Row{At: api.Coord{255, 128, 127, 1}, M: [2]int64{math.MinInt64, 0}}, slices.Concat([]byte{255, 128, 127, 1}, long, []byte{1, 0})},
		{of(0, 0, 0, math.MinInt64), slices.Concat([]byte{0, 0, 0, 0, 0}, long, []byte{1})},
		{of(0, 0, math.MaxInt64, math.MinInt64), slices.Concat([]byte{0, 0, 0, 0, 0xfe}, long[1:], []byte{1}, long, []byte{1})},
	}
}

// P7.3: written out, and read again.
func TestWritten(t *testing.T) {
	for _, x := range someWritten() {
		if got := Bytes(x.r); !bytes.Equal(got, x.b) {
			t.Errorf("Bytes(%v): %x, not %x", x.r, got, x.b)
		}
		if r, n, ok := Read(x.b); r != x.r || n != len(x.b) || !ok {
			t.Errorf("Read(%x): %v %d %v, not %v %d true", x.b, r, n, ok, x.r, len(x.b))
		}
	}
}

// P7.3: measures of one digit up to as many as there can be.
func TestBytes(t *testing.T) {
	for _, r := range rows() {
		if got, want := Bytes(r), bytesOf(r); !bytes.Equal(got, want) {
			t.Errorf("Bytes(%v): %x, not %x", r, got, want)
		}
	}
	for shift := range 64 {
		for _, v := range []int64{1<<shift - 1, 1 << shift, -1 << shift, -1<<shift - 1} {
			for _, r := range []api.Row{of(5, 6, v, 0), of(5, 6, 0, v), of(5, 6, v, v)} {
				if got, want := Bytes(r), bytesOf(r); !bytes.Equal(got, want) {
					t.Errorf("Bytes(%v): %x, not %x", r, got, want)
				}
				holdRead(t, bytesOf(r))
			}
		}
	}
}

// P7.3: nothing, and bytes that end ahead of the row's end, at each place.
func TestReadOfShort(t *testing.T) {
	holdNone(t, nil)
	holdNone(t, []byte{})
	for _, r := range rows() {
		b := bytesOf(r)
		for n := range b {
			holdNone(t, b[:n])
			holdNone(t, bytes.Clone(b[:n]))
		}
	}
}

// P7.3: where code.Get tells false: of either measure, too short, more digits than need be, above 2^64 - 1.
func TestReadWithoutNumber(t *testing.T) {
	long := bytes.Repeat([]byte{0xff}, 9)
	for _, number := range [][]byte{
		{0x80}, {0xff}, {0x80, 0x80}, long, bytes.Repeat([]byte{0x80}, 5000), {0x80, 0}, {0x81, 0}, {0xff, 0}, {0xac, 0x82, 0},
		append(slices.Clone(long), 0), append(slices.Clone(long), 2), append(slices.Clone(long), 0x7f), append(slices.Clone(long), 0x81, 0), append(slices.Clone(long), 0xff, 1),
	} {
		holdNone(t, slices.Concat([]byte{1, 2, 3, 4}, number))
		holdNone(t, slices.Concat([]byte{1, 2, 3, 4, 5}, number))
		holdNone(t, slices.Concat([]byte{1, 2, 3, 4, 0xac, 2}, number))
		if number[len(number)-1] < 0x80 {
			holdNone(t, slices.Concat([]byte{1, 2, 3, 4}, number, []byte{5}))
			holdNone(t, slices.Concat([]byte{1, 2, 3, 4, 5}, number, []byte{5}))
		}
	}
}

// P7.3: bytes of a row with one turned, taken out, put in.
func TestReadOfTurned(t *testing.T) {
	for _, x := range someWritten() {
		for n := range x.b {
			holdRead(t, slices.Delete(bytes.Clone(x.b), n, n+1))
			for d := range 256 {
				other := bytes.Clone(x.b)
				other[n] = byte(d)
				holdRead(t, other)
				holdRead(t, slices.Insert(bytes.Clone(x.b), n, byte(d)))
			}
		}
	}
}

// P7.3: any place is read, whether a catalog could have it or not.
func TestReadOfAnyPlace(t *testing.T) {
	for i := range api.MaxDims {
		for d := range 256 {
			b := []byte{7, 7, 7, 7, 1, 10}
			b[i] = byte(d)
			holdRead(t, b)
		}
	}
}

// P7.4: a row is read as it was written, whatever is behind it.
func TestReadAsWritten(t *testing.T) {
	for _, r := range rows() {
		b := Bytes(r)
		for _, behind := range behinds() {
			all := slices.Concat(b, behind)
			if got, n, ok := Read(all); got != r || n != len(b) || !ok {
				t.Errorf("Read(%x): %v %d %v, not %v %d true", all, got, n, ok, r, len(b))
			}
		}
	}
}

// P7.4: so many rows, one behind the other, are read in their order, and nothing is left.
func TestManyAreRead(t *testing.T) {
	var b []byte
	for _, r := range rows() {
		b = append(b, Bytes(r)...)
	}
	for _, r := range rows() {
		got, n, ok := Read(b)
		if got != r || !ok {
			t.Fatalf("%v %v, not %v true", got, ok, r)
		}
		b = b[n:]
	}
	if len(b) != 0 {
		t.Errorf("%x is left", b)
	}
}
