package lattice

import (
	"slices"
	"testing"

	"cuboid/api"
	"cuboid/schema"
)

const mark = -77

// roomy: the list in memory of its own, with a mark in the room behind it.
func roomy[T any](list []T, behind T) []T {
	return append(slices.Clone(list), behind)[:len(list)]
}

// withRoom: c in memory of its own, with room behind each of its lists.
func withRoom(c api.Catalog) api.Catalog {
	c.Dims = roomy(c.Dims, api.Dim{Sizes: []int{mark}})
	for i, d := range c.Dims {
		c.Dims[i] = api.Dim{Sizes: roomy(d.Sizes, mark), Up: roomy(d.Up, []int{mark})}
		for level, list := range d.Up {
			c.Dims[i].Up[level] = roomy(list, mark)
		}
	}
	return c
}

// full: c and all that is in the room behind its lists, in memory of its own.
func full(c api.Catalog) api.Catalog {
	c.Dims = slices.Clone(c.Dims[:cap(c.Dims)])
	for i, d := range c.Dims {
		up := slices.Clone(d.Up[:cap(d.Up)])
		for level, list := range up {
			up[level] = slices.Clone(list[:cap(list)])
		}
		c.Dims[i] = api.Dim{Sizes: slices.Clone(d.Sizes[:cap(d.Sizes)]), Up: up}
	}
	return c
}

// scribble writes over the nodes and over the room behind them.
func scribble(list []api.Node) {
	list = list[:cap(list)]
	for i := range list {
		list[i] = api.Node{99, 99, 99, 99}
	}
}

// Rule 2: what is handed in stays as it is, its spare room too, whatever becomes of what is told.
func TestLeavesItsCatalogs(t *testing.T) {
	for i, was := range slices.Concat(goods(), bads()) {
		c := withRoom(was)
		before := full(c)
		Whole(c)
		Count(c)
		scribble(All(c))
		for _, v := range nodesOver(0, 1, 4, 255) {
			Good(c, v)
			Cost(c, v)
			scribble(Covers(c, v))
		}
		if !schema.Same(full(c), before) {
			t.Errorf("catalog %d is now %v", i, c)
		}
	}
}

// Rule 2: no two answers share memory, of the same question or of another, and a change of the catalog is nothing to
// what was told.
func TestAnswersAreNewMemory(t *testing.T) {
	for _, was := range goods() {
		c := withRoom(was)
		kept := All(c)
		scribble(All(c))
		if again := All(c); !slices.Equal(again, nodesOf(was)) {
			t.Fatalf("All(%v), once more: %v", was, again)
		}
		for _, v := range nodesOf(was) {
			want := coversOf(was, v)
			held := Covers(c, v)
			scribble(Covers(c, v))
			if again := Covers(c, v); !slices.Equal(held, want) || !slices.Equal(again, want) {
				t.Fatalf("Covers(%v, %v): %v, once more %v, not %v", was, v, held, again, want)
			}
		}
		c.Dims[0].Sizes[0] = mark
		if !slices.Equal(kept, nodesOf(was)) {
			t.Fatalf("All(%v) has become %v", was, kept)
		}
	}
}
