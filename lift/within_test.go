package lift

import (
	"math"
	"slices"
	"testing"

	"cuboid/api"
	"cuboid/samples"
)

// withinOf: what the chapter says of Within, of a good c.
func withinOf(c api.Catalog, v api.Node, at api.Coord, f api.Fix) bool {
	if !samples.IsPlace(c, v, at) || f.Dim < 0 || f.Dim >= len(c.Dims) {
		return false
	}
	if f.Level < int(v[f.Dim]) || f.Level >= samples.Levels(c, f.Dim) {
		return false
	}
	return slices.Contains(f.Members, samples.Member(c, f.Dim, int(v[f.Dim]), f.Level, int(at[f.Dim])))
}

func holdWithin(t *testing.T, c api.Catalog, v api.Node, at api.Coord, f api.Fix) {
	t.Helper()
	if got, want := Within(c, v, at, f), withinOf(c, v, at, f); got != want {
		t.Fatalf("Within(%v, %v, %v, %v): %v", c, v, at, f, got)
	}
}

// upTo: the numbers below n.
func upTo(n int) []int {
	var all []int
	for m := range n {
		all = append(all, m)
	}
	return all
}

// memberLists: no members, each alone, all but one, all, all backwards and twice, and such as are none of any level's.
func memberLists() [][]int {
	all := upTo(api.MaxMembers)
	lists := [][]int{nil, {}, all, upTo(api.MaxMembers + 300), {-1, api.MaxMembers, 255, 256, math.MinInt, math.MaxInt}}
	back := slices.Concat(all, all)
	slices.Reverse(back)
	lists = append(lists, back)
	for m := range 4 {
		lists = append(lists, []int{m}, []int{m + 256, m - 256}, slices.Delete(slices.Clone(all), m, m+1))
	}
	return lists
}

// P6.3: each place of each node, at each dimension and level that there is, one beside and one behind them.
func TestWithin(t *testing.T) {
	lists := memberLists()
	for _, c := range samples.Goods() {
		for _, v := range samples.Nodes(c) {
			for _, at := range samples.Places(c, v) {
				for dim := -1; dim <= len(c.Dims); dim++ {
					for level := -1; level <= api.MaxLevels+1; level++ {
						for _, members := range lists {
							holdWithin(t, c, v, at, api.Fix{Dim: dim, Level: level, Members: members})
						}
					}
				}
			}
		}
	}
}

// P6.3: dimensions and levels of any number; numbers that would be one of the catalog's, were they cut to a byte.
func TestWithinFarOff(t *testing.T) {
	numbers := []int{math.MinInt, math.MinInt32, -257, -256, -255, -2, -1, 0, 1, 4, 5, 255, 256, 257, math.MaxInt32, 1 << 32, math.MaxInt}
	for _, c := range []api.Catalog{example(), samples.Goods()[12], wide()} {
		for _, v := range []api.Node{{}, {1, 1, 1, 1}, {1}, {255}} {
			for _, dim := range numbers {
				for _, level := range numbers {
					holdWithin(t, c, v, api.Coord{}, api.Fix{Dim: dim, Level: level, Members: upTo(api.MaxMembers)})
				}
			}
		}
	}
}

// P6.3: nodes that are none of the catalog's, and places that are none of the node's, whatever the fix asks for.
func TestWithinOfWrong(t *testing.T) {
	all := upTo(api.MaxMembers)
	for _, c := range samples.Goods() {
		for _, v := range samples.Nodes(c) {
			places := samples.Places(c, v)
			end := places[len(places)-1]
			for dim := range c.Dims {
				f := api.Fix{Dim: dim, Level: len(c.Dims[dim].Sizes), Members: all}
				holdWithin(t, c, v, end, f)
				for _, other := range samples.Spoilt(v) {
					holdWithin(t, c, other, api.Coord{}, f)
					holdWithin(t, c, other, end, f)
				}
				for _, at := range samples.Spoilt(end) {
					holdWithin(t, c, v, at, f)
				}
			}
		}
	}
}

// P6.3: some written out.
func TestWithinExamples(t *testing.T) {
	c := samples.Catalog(1, api.Dim{Sizes: []int{4, 2}, Up: [][]int{{0, 0, 1, 1}}}, api.Dim{Sizes: []int{2, 3}, Up: [][]int{{2, 0}}})
	for _, x := range []struct {
		v    api.Node
		at   api.Coord
		f    api.Fix
		want bool
	}{
		{api.Node{}, api.Coord{3, 0}, api.Fix{Dim: 0, Level: 0, Members: []int{3}}, true},
		{api.Node{}, api.Coord{3, 0}, api.Fix{Dim: 0, Level: 0, Members: []int{0, 1, 2}}, false},
		{api.Node{}, api.Coord{3, 0}, api.Fix{Dim: 0, Level: 1, Members: []int{5, 1, 1}}, true},
		{api.Node{}, api.Coord{3, 0}, api.Fix{Dim: 0, Level: 1, Members: []int{0, 3}}, false},
		{api.Node{}, api.Coord{3, 0}, api.Fix{Dim: 1, Level: 1, Members: []int{2}}, true},
		{api.Node{}, api.Coord{3, 0}, api.Fix{Dim: 1, Level: 1, Members: []int{0, 1}}, false},
		{api.Node{}, api.Coord{3, 0}, api.Fix{Dim: 1, Level: 2, Members: []int{0}}, true},
		{api.Node{}, api.Coord{3, 0}, api.Fix{Dim: 1, Level: 2, Members: []int{1}}, false},
		{api.Node{}, api.Coord{3, 0}, api.Fix{Dim: 1, Level: 3, Members: []int{0}}, false},
		{api.Node{}, api.Coord{3, 0}, api.Fix{Dim: 2, Level: 0, Members: []int{0}}, false},
		{api.Node{}, api.Coord{3, 0}, api.Fix{Dim: -1, Level: 0, Members: []int{3}}, false},
		{api.Node{}, api.Coord{3, 0}, api.Fix{Dim: 0, Level: -1, Members: []int{3}}, false},
		{api.Node{}, api.Coord{3, 0}, api.Fix{Dim: 0, Level: 2}, false},
		{api.Node{1, 1}, api.Coord{1, 1}, api.Fix{Dim: 0, Level: 0, Members: []int{0, 1, 2, 3}}, false},
		{api.Node{1, 1}, api.Coord{1, 1}, api.Fix{Dim: 0, Level: 1, Members: []int{1}}, true},
		{api.Node{2, 2}, api.Coord{}, api.Fix{Dim: 0, Level: 2, Members: []int{0}}, true},
		{api.Node{2, 2}, api.Coord{}, api.Fix{Dim: 0, Level: 1, Members: []int{0, 1}}, false},
		{api.Node{}, api.Coord{4, 0}, api.Fix{Dim: 1, Level: 0, Members: []int{0}}, false},
		{api.Node{}, api.Coord{3, 0, 0, 1}, api.Fix{Dim: 0, Level: 0, Members: []int{3}}, false},
		{api.Node{0, 3}, api.Coord{3, 0}, api.Fix{Dim: 0, Level: 0, Members: []int{3}}, false},
	} {
		if got := Within(c, x.v, x.at, x.f); got != x.want {
			t.Errorf("Within(%v, %v, %v): %v", x.v, x.at, x.f, got)
		}
	}
}
