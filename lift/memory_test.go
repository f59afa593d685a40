package lift

import (
	"slices"
	"testing"

	"cuboid/api"
	"cuboid/room"
	"cuboid/samples"
	"cuboid/schema"
)

// wrong: a place that no node has.
var wrong = api.Coord{99, 99, 99, 99}

// Rule 2: what is handed in stays as it is, its spare room too, whatever becomes of what is told.
func TestLeavesWhatIsHandedIn(t *testing.T) {
	for i, was := range slices.Concat(samples.Goods(), samples.Bads()) {
		c := room.Catalog(was)
		before := room.Full(c)
		members := room.Behind([]int{9, 1, 0, 1, -5}, room.Mark)
		listed := slices.Clone(members[:cap(members)])
		for _, v := range samples.Product[api.Node]([4]int{3, 2, 2, 2}) {
			To(c, api.Node{}, v, api.Coord{})
			room.Fill(Fiber(c, v, api.Coord{}, api.Node{}), wrong)
			for dim := range api.MaxDims {
				Within(c, v, api.Coord{}, api.Fix{Dim: dim, Level: 1, Members: members})
			}
		}
		if !schema.Same(room.Full(c), before) {
			t.Errorf("catalog %d is now %v", i, c)
		}
		if !slices.Equal(members[:cap(members)], listed) {
			t.Errorf("catalog %d: the fix's members are now %v", i, members[:cap(members)])
		}
	}
}

// Rule 2: no two answers share memory, and a change of the catalog is nothing to what was told.
func TestAnswersAreNewMemory(t *testing.T) {
	for _, was := range samples.Goods() {
		for _, to := range samples.Nodes(was) {
			c, at := room.Catalog(was), samples.Places(was, to)[0]
			want := fiberOf(was, to, at, api.Node{})
			kept := Fiber(c, to, at, api.Node{})
			room.Fill(Fiber(c, to, at, api.Node{}), wrong)
			if again := Fiber(c, to, at, api.Node{}); !slices.Equal(kept, want) || !slices.Equal(again, want) {
				t.Fatalf("Fiber(%v, %v, %v): %v, once more %v, not %v", was, to, at, kept, again, want)
			}
			room.Spoil(c)
			if !slices.Equal(kept, want) {
				t.Fatalf("Fiber(%v, %v, %v) has become %v", was, to, at, kept)
			}
		}
	}
}
