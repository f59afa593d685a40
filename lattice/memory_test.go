package lattice

import (
	"slices"
	"testing"

	"cuboid/api"
	"cuboid/room"
	"cuboid/schema"
)

// wrong: a node that no catalog has.
var wrong = api.Node{99, 99, 99, 99}

// Rule 2: what is handed in stays as it is, its spare room too, whatever becomes of what is told.
func TestLeavesItsCatalogs(t *testing.T) {
	for i, was := range slices.Concat(goods(), bads()) {
		c := room.Catalog(was)
		before := room.Full(c)
		Whole(c)
		Count(c)
		room.Fill(All(c), wrong)
		for _, v := range nodesOver(0, 1, 4, 255) {
			Good(c, v)
			Cost(c, v)
			room.Fill(Covers(c, v), wrong)
		}
		if !schema.Same(room.Full(c), before) {
			t.Errorf("catalog %d is now %v", i, c)
		}
	}
}

// Rule 2: no two answers share memory, of the same question or of another, and a change of the catalog is nothing to
// what was told.
func TestAnswersAreNewMemory(t *testing.T) {
	for _, was := range goods() {
		c := room.Catalog(was)
		kept := All(c)
		room.Fill(All(c), wrong)
		if again := All(c); !slices.Equal(again, nodesOf(was)) {
			t.Fatalf("All(%v), once more: %v", was, again)
		}
		for _, v := range nodesOf(was) {
			want := coversOf(was, v)
			held := Covers(c, v)
			room.Fill(Covers(c, v), wrong)
			if again := Covers(c, v); !slices.Equal(held, want) || !slices.Equal(again, want) {
				t.Fatalf("Covers(%v, %v): %v, once more %v, not %v", was, v, held, again, want)
			}
		}
		room.Spoil(c)
		if !slices.Equal(kept, nodesOf(was)) {
			t.Fatalf("All(%v) has become %v", was, kept)
		}
	}
}
