package row

import (
	"bytes"
	"slices"
	"testing"

	"cuboid/api"
	"cuboid/room"
	"cuboid/samples"
	"cuboid/schema"
)

// wrong: a row that no test hands in.
var wrong = api.Row{At: api.Coord{99, 99, 99, 99}, M: [api.MaxMeasures]int64{99, 99}}

// Rule 2: Good leaves the catalog as it is, its spare room too.
func TestGoodLeavesItsCatalog(t *testing.T) {
	for i, was := range slices.Concat(samples.Goods(), samples.Bads()) {
		c := room.Catalog(was)
		before := room.Full(c)
		for _, r := range rising() {
			Good(c, r)
		}
		if !schema.Same(room.Full(c), before) {
			t.Errorf("catalog %d is now %v", i, c)
		}
	}
}

// lists: of none, of one, of many rows, in order and not.
func lists() [][]api.Row {
	all := rising()
	return [][]api.Row{nil, {}, all[:1], all, turned(all), mixed(all, 3)}
}

// Rule 2: Sort and Mass leave the list as it is, its spare room too, whatever becomes of what Sort tells.
func TestLeavesItsRows(t *testing.T) {
	for _, was := range lists() {
		l := room.Behind(was, wrong)
		before := slices.Clone(l[:cap(l)])
		Mass(l...)
		kept := Sort(l)
		room.Fill(Sort(l), api.Row{})
		if !slices.Equal(l[:cap(l)], before) {
			t.Fatalf("%v is now %v", before, l[:cap(l)])
		}
		room.Fill(l, wrong)
		if !slices.Equal(kept, sortedOf(was)) {
			t.Fatalf("Sort(%v) has become %v", was, kept)
		}
	}
}

// Rule 2: no two answers of Sort share memory.
func TestSortsAreApart(t *testing.T) {
	for _, l := range lists() {
		kept := Sort(l)
		room.Fill(Sort(l), wrong)
		if again, want := Sort(l), sortedOf(l); !slices.Equal(kept, want) || !slices.Equal(again, want) {
			t.Fatalf("Sort(%v): %v, once more %v", l, kept, again)
		}
	}
}

// Rule 2: no two answers of Bytes share memory.
func TestBytesAreApart(t *testing.T) {
	for _, r := range rows() {
		want := bytesOf(r)
		kept := Bytes(r)
		room.Fill(Bytes(r), 0xaa)
		if again := Bytes(r); !bytes.Equal(kept, want) || !bytes.Equal(again, want) {
			t.Fatalf("Bytes(%v): %x, once more %x", r, kept, again)
		}
	}
}

// Rule 2: Read leaves its bytes, those behind them too.
func TestReadLeavesItsBytes(t *testing.T) {
	for _, r := range rows() {
		whole := bytesOf(r)
		for n := range len(whole) + 1 {
			b := room.Behind(whole[:n], 0xaa)
			before := bytes.Clone(b[:cap(b)])
			Read(b)
			if !bytes.Equal(b[:cap(b)], before) {
				t.Fatalf("Read(%x) left %x of %x", whole[:n], b[:cap(b)], before)
			}
		}
	}
}
