package schema

import (
	"bytes"
	"encoding/binary"
	"math"
	"slices"
	"testing"

	"cuboid/api"
)

// P4.2: the example's bytes, and some more written out.
func TestExamples(t *testing.T) {
	for _, x := range []struct {
		c api.Catalog
		b []byte
	}{
		{catalogOf(1, api.Dim{Sizes: []int{3}}), []byte{1, 1, 1, 3}},
		{catalogOf(2, api.Dim{Sizes: []int{40}}), []byte{2, 1, 1, 40}},
		{catalogOf(2, api.Dim{Sizes: []int{4, 2}, Up: [][]int{{0, 0, 1, 1}}}, api.Dim{Sizes: []int{3}}), []byte{2, 2, 2, 4, 2, 0, 0, 1, 1, 1, 3}},
		{catalogOf(1, api.Dim{Sizes: []int{2}}, api.Dim{Sizes: []int{3, 1, 5}, Up: [][]int{{0, 0, 0}, {4}}}), []byte{1, 2, 1, 2, 3, 3, 1, 5, 0, 0, 0, 4}},
	} {
		if got := Bytes(x.c); !bytes.Equal(got, x.b) {
			t.Errorf("Bytes(%v): %x, not %x", x.c, got, x.b)
		}
		if got, ok := Read(x.b); !Same(got, x.c) || !ok {
			t.Errorf("Read(%x): %v %v, not %v true", x.b, got, ok, x.c)
		}
	}
	if c, ok := Read([]byte{1, 1, 1, 3, 0}); !Same(c, api.Catalog{}) || ok {
		t.Errorf("Read of one byte more: %v %v", c, ok)
	}
}

// bytesOf: what the chapter says of Bytes; no number of a good catalog takes more than one byte.
func bytesOf(c api.Catalog) []byte {
	numbers := []int{c.Measures, len(c.Dims)}
	for _, d := range c.Dims {
		numbers = slices.Concat(numbers, []int{len(d.Sizes)}, d.Sizes, slices.Concat(d.Up...))
	}
	var b []byte
	for _, n := range numbers {
		b = append(b, byte(n))
	}
	return b
}

// P4.2: the bytes of all good ones. (TestNothingOfBads holds that the others have none.)
func TestBytes(t *testing.T) {
	for _, c := range goods() {
		if got, want := Bytes(c), bytesOf(c); !bytes.Equal(got, want) {
			t.Errorf("Bytes(%v): %x, not %x", c, got, want)
		}
	}
}

// P4.3: a catalog that may be is read as it was written.
func TestWrittenIsRead(t *testing.T) {
	for _, c := range goods() {
		if got, ok := Read(Bytes(c)); !Same(got, c) || !ok {
			t.Errorf("%v is read as %v %v", c, got, ok)
		}
	}
}

// cut parts b behind its first n bytes.
func cut(b []byte, n int) ([]byte, []byte, bool) {
	if n < 0 || len(b) < n {
		return nil, nil, false
	}
	return b[:n], b[n:], true
}

// ints: the bytes as numbers, if each is at least that and below the other.
func ints(b []byte, least, end int) ([]int, bool) {
	var list []int
	for _, x := range b {
		if int(x) < least || int(x) >= end {
			return nil, false
		}
		list = append(list, int(x))
	}
	return list, true
}

// dimAt: the dimension that may be at b's beginning, byte by byte, and what is behind it.
func dimAt(b []byte) (api.Dim, []byte, bool) {
	var d api.Dim
	head, b, ok := cut(b, 1)
	if !ok || head[0] < 1 || head[0] > 4 {
		return d, nil, false
	}
	list, b, _ := cut(b, int(head[0]))
	if d.Sizes, ok = ints(list, 1, 41); !ok || len(d.Sizes) == 0 {
		return d, nil, false
	}
	for level, next := range d.Sizes[1:] {
		list, b, ok = cut(b, d.Sizes[level])
		up, fits := ints(list, 0, next)
		if !ok || !fits {
			return d, nil, false
		}
		d.Up = append(d.Up, up)
	}
	return d, b, true
}

// catalogAt: what the chapter says of Read.
func catalogAt(b []byte) (api.Catalog, bool) {
	head, b, ok := cut(b, 2)
	if !ok || head[0] < 1 || head[0] > 2 || head[1] < 1 || head[1] > 4 {
		return api.Catalog{}, false
	}
	c := api.Catalog{Measures: int(head[0])}
	for range head[1] {
		var d api.Dim
		if d, b, ok = dimAt(b); !ok {
			return api.Catalog{}, false
		}
		c.Dims = append(c.Dims, d)
	}
	if len(b) > 0 {
		return api.Catalog{}, false
	}
	return c, true
}

func holdRead(t *testing.T, b []byte) {
	t.Helper()
	want, is := catalogAt(b)
	got, ok := Read(b)
	if ok != is || !Same(got, want) {
		t.Fatalf("Read(%x): %v %v, not %v %v", b, got, ok, want, is)
	}
	if ok && (!Good(got) || !bytes.Equal(Bytes(got), b)) {
		t.Fatalf("Read(%x): %v may be: %v, its bytes are %x", b, got, Good(got), Bytes(got))
	}
}

func holdNone(t *testing.T, b []byte) {
	t.Helper()
	if c, ok := Read(b); ok || !Same(c, api.Catalog{}) {
		t.Fatalf("Read(%x): %v %v, not zero false", b, c, ok)
	}
}

// P4.2: bytes at the edges of each count and of each number.
func TestReadEdges(t *testing.T) {
	for _, b := range [][]byte{
		nil, {}, {0}, {1}, {1, 0}, {1, 1}, {1, 1, 0}, {1, 1, 1}, {1, 1, 1, 0}, {1, 1, 1, 41}, {0, 1, 1, 1}, {3, 1, 1, 1}, {2, 0, 1, 1},
		{1, 1, 2, 1, 1}, {1, 1, 2, 1, 1, 1}, {1, 1, 2, 1, 1, 0, 0}, {1, 1, 2, 2, 1, 0}, {1, 1, 2, 1, 0}, {1, 1, 2, 0, 1}, {1, 1, 2, 0, 0},
		{1, 1, 5, 1, 1, 1, 1, 1, 0, 0, 0, 0}, {1, 5, 1, 1, 1, 1, 1, 1, 1, 1, 1, 1}, {1, 2, 1, 1}, {1, 1, 1, 1, 1, 1},
		bytes.Repeat([]byte{40}, 1<<17), make([]byte, 5000), bytes.Repeat([]byte{0x80}, 5000), bytes.Repeat([]byte{0xff}, 5000),
		binary.AppendUvarint([]byte{1}, math.MaxUint64), binary.AppendUvarint([]byte{1, 1}, 1<<31), binary.AppendUvarint([]byte{1, 1, 1}, 1<<62),
	} {
		holdNone(t, b)
	}
	for _, b := range [][]byte{
		{1, 1, 1, 1}, {2, 1, 1, 1}, {1, 1, 1, 40}, {1, 1, 2, 1, 1, 0}, {1, 1, 2, 1, 40, 39}, {1, 1, 4, 1, 1, 1, 1, 0, 0, 0},
		{1, 4, 1, 1, 1, 1, 1, 1, 1, 1}, {1, 1, 2, 2, 3, 2, 2},
	} {
		if _, ok := Read(b); !ok {
			t.Errorf("Read(%x): false", b)
		}
		holdRead(t, b)
	}
}

// P4.2: all bytes of a few kinds, up to some length.
func TestReadOfAll(t *testing.T) {
	row := [][]byte{nil}
	for range 8 {
		var longer [][]byte
		for _, b := range row {
			for d := range byte(4) {
				longer = append(longer, append(bytes.Clone(b), d))
			}
		}
		row = longer
		for _, b := range row {
			holdRead(t, b)
		}
	}
}

// P4.2: bytes of a catalog that end early, or behind which there are more.
func TestReadOfLonger(t *testing.T) {
	for _, c := range goods() {
		b := bytesOf(c)
		for n := range b {
			holdNone(t, b[:n])
		}
		for _, more := range [][]byte{{0}, {1}, {0x80}, {0xff}, {0x80, 0}, b} {
			holdNone(t, slices.Concat(b, more))
		}
	}
}

// P4.2: bytes of a catalog with one turned, taken out, put in.
func TestReadOfTurned(t *testing.T) {
	for _, c := range goods() {
		b := bytesOf(c)
		some := []byte{0, 1, 2, 3, 4, 5, 39, 40, 41, 127, 128, 129, 255}
		if len(b) < 60 {
			for d := range 256 {
				some = append(some, byte(d))
			}
		}
		for n := range b {
			holdRead(t, slices.Delete(bytes.Clone(b), n, n+1))
			for _, d := range append(some, b[n]+1, b[n]-1, b[n]^128) {
				turned := bytes.Clone(b)
				turned[n] = d
				holdRead(t, turned)
				holdRead(t, slices.Insert(bytes.Clone(b), n, d))
			}
		}
	}
}

// P4.2: numbers that are written longer than need be, or that are others by what wraps round.
func TestReadOfLongNumbers(t *testing.T) {
	for _, c := range goods() {
		b := bytesOf(c)
		for n, d := range b {
			u := uint64(d)
			for _, number := range [][]byte{
				{d | 128, 0}, {d | 128, 128, 0}, {d | 128, 128, 128, 128, 128, 128, 128, 128, 128, 0}, {d | 128, 128, 128, 128, 128, 128, 128, 128, 128, 2},
				binary.AppendUvarint(nil, u+128), binary.AppendUvarint(nil, u+1<<8), binary.AppendUvarint(nil, u+1<<16),
				binary.AppendUvarint(nil, u+1<<32), binary.AppendUvarint(nil, u+1<<63), binary.AppendUvarint(nil, -u-1), binary.AppendUvarint(nil, math.MaxUint64),
			} {
				holdNone(t, slices.Concat(b[:n], number, b[n+1:]))
			}
		}
	}
}
