package lift

import (
	"testing"

	"cuboid/api"
	"cuboid/samples"
)

// example: the catalog of the chapter's example.
func example() api.Catalog {
	return samples.Catalog(1, api.Dim{Sizes: []int{4, 2}, Up: [][]int{{0, 0, 1, 1}}})
}

// wide: a catalog of as many dimensions, levels and members as there may be.
func wide() api.Catalog {
	return samples.Catalog(1, samples.Dim(samples.InTurn, 40, 40, 40, 40), samples.Dim(samples.Backwards, 40, 40, 40, 40), samples.Dim(samples.Last, 40, 40, 40, 40), samples.Dim(samples.InTurn, 40, 7, 40, 3))
}

func holdTo(t *testing.T, c api.Catalog, from, to api.Node, at api.Coord) {
	t.Helper()
	want, is := samples.Carried(c, from, to, at)
	if got, ok := To(c, from, to, at); got != want || ok != is {
		t.Fatalf("To(%v, %v, %v, %v): %v, %v, not %v, %v", c, from, to, at, got, ok, want, is)
	}
}

// P6.1: each place of each node, to each node: to itself, to a coarser one, to a finer one, to one that is neither.
func TestTo(t *testing.T) {
	for _, c := range samples.Goods() {
		for _, from := range samples.Nodes(c) {
			for _, at := range samples.Places(c, from) {
				for _, to := range samples.Nodes(c) {
					holdTo(t, c, from, to, at)
				}
			}
		}
	}
}

// P6.1: nodes that are none of the catalog's, one level behind the whole, beyond the dimensions, with numbers up to
// 255; places that are none of the node's.
func TestToOfWrong(t *testing.T) {
	for _, c := range samples.Goods() {
		all := samples.Nodes(c)
		top := all[len(all)-1]
		for _, v := range all {
			places := samples.Places(c, v)
			end := places[len(places)-1]
			for _, other := range samples.Spoilt(v) {
				holdTo(t, c, v, other, end)
				holdTo(t, c, other, top, end)
				holdTo(t, c, other, other, api.Coord{})
				holdTo(t, c, other, other, end)
			}
			for _, at := range samples.Spoilt(end) {
				holdTo(t, c, v, v, at)
				holdTo(t, c, v, top, at)
			}
		}
	}
}

// P6.1: the example, and some more written out.
func TestToExamples(t *testing.T) {
	c := samples.Catalog(1, api.Dim{Sizes: []int{4, 2}, Up: [][]int{{0, 0, 1, 1}}}, api.Dim{Sizes: []int{2, 3, 2}, Up: [][]int{{2, 0}, {1, 0, 1}}})
	for _, x := range []struct {
		c        api.Catalog
		from, to api.Node
		at, want api.Coord
		ok       bool
	}{
		{example(), api.Node{0}, api.Node{1}, api.Coord{3}, api.Coord{1}, true},
		{example(), api.Node{0}, api.Node{2}, api.Coord{3}, api.Coord{0}, true},
		{c, api.Node{0, 0}, api.Node{0, 0}, api.Coord{3, 1}, api.Coord{3, 1}, true},
		{c, api.Node{0, 0}, api.Node{1, 1}, api.Coord{1, 0}, api.Coord{0, 2}, true},
		{c, api.Node{0, 0}, api.Node{1, 2}, api.Coord{2, 1}, api.Coord{1, 1}, true},
		{c, api.Node{0, 1}, api.Node{0, 2}, api.Coord{3, 1}, api.Coord{3, 0}, true},
		{c, api.Node{1, 1}, api.Node{2, 3}, api.Coord{1, 2}, api.Coord{0, 0}, true},
		{c, api.Node{2, 3}, api.Node{2, 3}, api.Coord{0, 0}, api.Coord{0, 0}, true},
		{c, api.Node{1, 1}, api.Node{0, 1}, api.Coord{1, 2}, api.Coord{}, false},
		{c, api.Node{1, 1}, api.Node{2, 0}, api.Coord{1, 2}, api.Coord{}, false},
		{c, api.Node{0, 0}, api.Node{1, 1}, api.Coord{4, 0}, api.Coord{}, false},
		{c, api.Node{0, 0}, api.Node{1, 1}, api.Coord{0, 2}, api.Coord{}, false},
		{c, api.Node{0, 0}, api.Node{1, 1}, api.Coord{0, 0, 1}, api.Coord{}, false},
		{c, api.Node{0, 0}, api.Node{1, 1}, api.Coord{0, 0, 0, 255}, api.Coord{}, false},
		{c, api.Node{0, 0}, api.Node{3, 1}, api.Coord{1, 1}, api.Coord{}, false},
		{c, api.Node{0, 0}, api.Node{1, 4}, api.Coord{1, 1}, api.Coord{}, false},
		{c, api.Node{0, 0}, api.Node{1, 1, 1}, api.Coord{1, 1}, api.Coord{}, false},
		{c, api.Node{3, 0}, api.Node{3, 0}, api.Coord{}, api.Coord{}, false},
		{c, api.Node{255, 255, 255, 255}, api.Node{255, 255, 255, 255}, api.Coord{}, api.Coord{}, false},
	} {
		if got, ok := To(x.c, x.from, x.to, x.at); got != x.want || ok != x.ok {
			t.Errorf("To(%v, %v, %v): %v, %v, not %v, %v", x.from, x.to, x.at, got, ok, x.want, x.ok)
		}
	}
}

// P6.1: as many dimensions, levels and members as there may be.
func TestToOfWide(t *testing.T) {
	c := wide()
	for _, from := range samples.Nodes(c) {
		for _, step := range samples.Product[api.Node]([4]int{2, 2, 2, 2}) {
			for _, at := range []api.Coord{{}, {39, 38, 37, 2}, {20, 39, 0, 6}, {39, 39, 39, 39}, {40, 1, 1, 1}, {1, 1, 1, 40}} {
				to := api.Node{from[0] + step[0], from[1] + step[1], from[2] + 2*step[2], from[3] + 3*step[3]}
				holdTo(t, c, from, to, at)
			}
		}
	}
}

// P6.1, P6.2, P6.3: of a catalog that may not be there is nothing.
func TestNothingOfBads(t *testing.T) {
	for i, c := range samples.Bads() {
		for _, from := range samples.Product[api.Node]([4]int{2, 1, 1, 2}) {
			for _, to := range []api.Node{from, {1, 1, 1, 1}, {2, 2, 2, 2}, {1}, {255, 255, 255, 255}} {
				if at, ok := To(c, from, to, api.Coord{}); ok || at != (api.Coord{}) {
					t.Errorf("bad %d: To(%v, %v): %v, %v", i, from, to, at, ok)
				}
				if got := Fiber(c, to, api.Coord{}, from); len(got) != 0 {
					t.Errorf("bad %d: Fiber(%v, %v): %v", i, to, from, got)
				}
			}
			for dim := range 6 {
				for level := range 3 {
					f := api.Fix{Dim: dim, Level: level, Members: []int{0, 1, 2}}
					if Within(c, from, api.Coord{}, f) {
						t.Errorf("bad %d: %v is within %v", i, from, f)
					}
				}
			}
		}
	}
}
