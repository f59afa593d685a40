package samples

import (
	"slices"
	"testing"

	"cuboid/api"
	"cuboid/lattice"
	"cuboid/schema"
)

// The samples are what they are called, by schema's word; there are some of each number of dimensions and measures.
func TestGoodsAndBads(t *testing.T) {
	var dims [api.MaxDims + 1]int
	var measures [api.MaxMeasures + 1]int
	for _, c := range Goods() {
		if !schema.Good(c) {
			t.Fatalf("%v may not be", c)
		}
		dims[len(c.Dims)]++
		measures[c.Measures]++
	}
	if slices.Contains(dims[1:], 0) || slices.Contains(measures[1:], 0) {
		t.Errorf("by dimensions %v, by measures %v", dims, measures)
	}
	for i, c := range Bads() {
		if schema.Good(c) {
			t.Errorf("bad %d may be", i)
		}
	}
}

// The samples' own words of nodes and places are those of the layers.
func TestNodesAndPlaces(t *testing.T) {
	for _, c := range Goods() {
		all := Nodes(c)
		if !slices.Equal(all, lattice.All(c)) {
			t.Fatalf("%v: nodes %v", c, all)
		}
		for _, v := range all {
			places := Places(c, v)
			if len(places) != lattice.Cost(c, v) {
				t.Fatalf("%v: %d places of %v", c, len(places), v)
			}
			for _, at := range slices.Concat(places, Spoilt(places[len(places)-1])) {
				if IsPlace(c, v, at) != schema.Right(c, v, at) {
					t.Fatalf("%v: IsPlace(%v, %v): %v", c, v, at, IsPlace(c, v, at))
				}
			}
			for _, other := range Spoilt(v) {
				if IsNode(c, other) != lattice.Good(c, other) || IsBelow(v, other) != lattice.Below(v, other) {
					t.Fatalf("%v: %v beside %v", c, other, v)
				}
			}
		}
	}
}
