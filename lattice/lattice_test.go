package lattice

import (
	"math"
	"slices"
	"testing"

	"cuboid/api"
)

// dimOf: a dimension of levels of so many members, all of which belong to the next level's last one.
func dimOf(sizes ...int) api.Dim {
	d := api.Dim{Sizes: sizes}
	for level, n := range sizes[1:] {
		d.Up = append(d.Up, slices.Repeat([]int{n - 1}, sizes[level]))
	}
	return d
}

func catalogOf(measures int, dims ...api.Dim) api.Catalog {
	return api.Catalog{Dims: dims, Measures: measures}
}

// goods: catalogs of 1 to MaxDims dimensions, of 1 to MaxLevels levels, of 1 to MaxMembers members; the sizes of a
// dimension's levels are mostly unlike, so that a wrong level is seen.
func goods() []api.Catalog {
	return []api.Catalog{
		catalogOf(1, dimOf(1)),
		catalogOf(1, dimOf(api.MaxMembers)),
		catalogOf(1, dimOf(1, 1, 1, 1)),
		catalogOf(2, dimOf(7, 5, 3)),
		catalogOf(1, dimOf(3), dimOf(2)),
		catalogOf(2, dimOf(4, 2), dimOf(3)),
		catalogOf(2, dimOf(3), dimOf(4, 2)),
		catalogOf(1, dimOf(1, api.MaxMembers), dimOf(api.MaxMembers, 1)),
		catalogOf(1, dimOf(2, 3), dimOf(11, 7, 5, 13), dimOf(1)),
		catalogOf(2, dimOf(9, 4, 2), dimOf(5), dimOf(8, 6)),
		catalogOf(1, dimOf(1), dimOf(1), dimOf(1), dimOf(1)),
		catalogOf(1, dimOf(2), dimOf(5, 3), dimOf(11, 8, 6), dimOf(19, 17, 13, 7)),
		catalogOf(2, dimOf(19, 17, 13, 7), dimOf(11, 8, 6), dimOf(5, 3), dimOf(2)),
		catalogOf(api.MaxMeasures, dimOf(40, 40, 40, 40), dimOf(40, 1, 40, 1), dimOf(1, 40, 1, 40), dimOf(40, 39, 38, 37)),
		catalogOf(1, dimOf(40, 40, 40, 40), dimOf(40, 40, 40, 40), dimOf(40, 40, 40, 40), dimOf(40, 40, 40, 40)),
	}
}

// badDims: dimensions that may not be.
func badDims() []api.Dim {
	return []api.Dim{
		{}, {Up: [][]int{{0}}}, {Sizes: []int{0}}, {Sizes: []int{-1}}, {Sizes: []int{api.MaxMembers + 1}}, {Sizes: []int{math.MaxInt}},
		{Sizes: []int{1, 1}}, {Sizes: []int{1, 1}, Up: [][]int{{1}}}, {Sizes: []int{1, 1}, Up: [][]int{{}}}, {Sizes: []int{1}, Up: [][]int{{0}}},
		dimOf(1, 1, 1, 1, 1), dimOf(api.MaxMembers+1, 1), {Sizes: make([]int, 256)}, {Sizes: make([]int, 5000)},
	}
}

// bads: catalogs that may not be, some of which differ from one that may be in one thing alone.
func bads() []api.Catalog {
	one := dimOf(2, 1)
	all := []api.Catalog{{}, catalogOf(1), catalogOf(1, one, one, one, one, one), catalogOf(1, slices.Repeat([]api.Dim{one}, 5000)...)}
	for _, measures := range []int{0, -1, api.MaxMeasures + 1, math.MinInt, math.MaxInt} {
		all = append(all, catalogOf(measures), catalogOf(measures, one), catalogOf(measures, one, one, one, one))
	}
	for _, bad := range badDims() {
		for dims := range api.MaxDims {
			for place := range dims + 1 {
				c := catalogOf(1, slices.Repeat([]api.Dim{one}, dims+1)...)
				c.Dims[place] = bad
				all = append(all, c)
			}
		}
	}
	return all
}

// sizesOf: how many members each level of a dimension of a good c has, the whole's last; beyond the dimensions there
// is only a 0 to name, and one place.
func sizesOf(c api.Catalog, dim int) []int {
	if dim >= len(c.Dims) {
		return []int{1}
	}
	return append(slices.Clone(c.Dims[dim].Sizes), 1)
}

// isNode: what the chapter says of a good c's nodes.
func isNode(c api.Catalog, v api.Node) bool {
	for dim, level := range v {
		if int(level) >= len(sizesOf(c, dim)) {
			return false
		}
	}
	return true
}

// nodesOver: all nodes of some numbers, rising if the numbers are.
func nodesOver(numbers ...uint8) []api.Node {
	var all []api.Node
	for _, p := range numbers {
		for _, q := range numbers {
			for _, r := range numbers {
				for _, s := range numbers {
					all = append(all, api.Node{p, q, r, s})
				}
			}
		}
	}
	return all
}

// tried: nodes of all levels that a catalog may have, one level behind the whole, and numbers up to 255.
func tried() []api.Node {
	return nodesOver(0, 1, 2, 3, 4, 5, 6, 128, 255)
}

// nodesOf: a good c's nodes, picked out of all that there are with numbers up to MaxLevels.
func nodesOf(c api.Catalog) []api.Node {
	all := nodesOver(0, 1, 2, 3, 4)
	return slices.DeleteFunc(all, func(v api.Node) bool { return !isNode(c, v) })
}

// coversOf: what the chapter says of Covers, of a node of a good c's.
func coversOf(c api.Catalog, v api.Node) []api.Node {
	var all []api.Node
	for dim := range api.MaxDims {
		up := v
		up[dim]++
		if isNode(c, up) {
			all = append(all, up)
		}
	}
	return all
}

// P5.1: which nodes are a catalog's.
func TestGood(t *testing.T) {
	for _, c := range goods() {
		for _, v := range tried() {
			if got, want := Good(c, v), isNode(c, v); got != want {
				t.Fatalf("Good(%v, %v): %v", c, v, got)
			}
		}
	}
}

// P5.1: the edges written out: the whole, one level behind it, something beyond the dimensions.
func TestGoodEdges(t *testing.T) {
	c := catalogOf(1, dimOf(4, 2), dimOf(3))
	for _, x := range []struct {
		v    api.Node
		want bool
	}{
		{api.Node{}, true}, {api.Node{2, 1}, true}, {api.Node{2}, true}, {api.Node{0, 1}, true},
		{api.Node{3}, false}, {api.Node{3, 1}, false}, {api.Node{0, 2}, false}, {api.Node{2, 2}, false}, {api.Node{255}, false}, {api.Node{0, 255}, false},
		{api.Node{0, 0, 1}, false}, {api.Node{0, 0, 0, 1}, false}, {api.Node{2, 1, 0, 255}, false}, {api.Node{255, 255, 255, 255}, false},
	} {
		if got := Good(c, x.v); got != x.want {
			t.Errorf("Good of %v: %v", x.v, got)
		}
	}
}

// P5.1, P5.2: of a catalog that may not be there are no nodes.
func TestNothingOfBads(t *testing.T) {
	some := append(nodesOver(0, 1), nodesOver(2, 4, 255)...)
	for i, c := range bads() {
		if got := Whole(c); got != (api.Node{}) {
			t.Errorf("Whole of bad %d: %v, not all 0", i, got)
		}
		if n, all := Count(c), All(c); n != 0 || len(all) != 0 {
			t.Errorf("bad %d: Count %d, All %v", i, n, all)
		}
		for _, v := range some {
			if Good(c, v) || Cost(c, v) != 0 || len(Covers(c, v)) != 0 {
				t.Errorf("bad %d, %v: Good %v, Cost %d, Covers %v", i, v, Good(c, v), Cost(c, v), Covers(c, v))
			}
		}
	}
}

// P5.1: the finest levels, and the whole of each dimension.
func TestBaseAndWhole(t *testing.T) {
	if got := Base(); got != (api.Node{0, 0, 0, 0}) {
		t.Errorf("Base: %v", got)
	}
	for _, c := range goods() {
		var want api.Node
		for dim, d := range c.Dims {
			want[dim] = uint8(len(d.Sizes))
		}
		if got := Whole(c); got != want {
			t.Errorf("Whole(%v): %v, not %v", c, got, want)
		}
	}
	for _, x := range []struct {
		c    api.Catalog
		want api.Node
	}{
		{catalogOf(1, dimOf(1)), api.Node{1}},
		{catalogOf(1, dimOf(4, 2), dimOf(3)), api.Node{2, 1}},
		{catalogOf(2, dimOf(1, 1, 1, 1), dimOf(2), dimOf(3, 2, 1), dimOf(6, 5)), api.Node{4, 1, 3, 2}},
	} {
		if got := Whole(x.c); got != x.want {
			t.Errorf("Whole(%v): %v, not %v", x.c, got, x.want)
		}
	}
}

// P5.2: the nodes of a catalog, each once, in their order, and as many as Count tells.
func TestAll(t *testing.T) {
	for _, c := range goods() {
		want := nodesOf(c)
		if got := All(c); !slices.Equal(got, want) {
			t.Errorf("All(%v): %v, not %v", c, got, want)
		}
		if got := Count(c); got != len(want) {
			t.Errorf("Count(%v): %d, not %d", c, got, len(want))
		}
	}
}

// P5.2: each of All is a catalog's, ahead of the next by the first number that is unlike; the base is the first one,
// the whole the last.
func TestAllRises(t *testing.T) {
	for _, c := range goods() {
		all := All(c)
		if len(all) < 2 || all[0] != Base() || all[len(all)-1] != Whole(c) {
			t.Fatalf("All(%v): %v", c, all)
		}
		for i, v := range all {
			if !Good(c, v) {
				t.Errorf("%v: %v is none of its nodes", c, v)
			}
			if i > 0 && slices.Compare(all[i-1][:], v[:]) >= 0 {
				t.Errorf("%v: %v stands ahead of %v", c, all[i-1], v)
			}
		}
	}
}

// P5.2: the examples, and some more written out.
func TestAllExamples(t *testing.T) {
	for _, x := range []struct {
		c    api.Catalog
		want []api.Node
	}{
		{catalogOf(1, dimOf(3), dimOf(2)), []api.Node{{0, 0}, {0, 1}, {1, 0}, {1, 1}}},
		{catalogOf(1, dimOf(1)), []api.Node{{0}, {1}}},
		{catalogOf(2, dimOf(4, 3, 2, 1)), []api.Node{{0}, {1}, {2}, {3}, {4}}},
		{catalogOf(1, dimOf(4, 2), dimOf(3)), []api.Node{{0, 0}, {0, 1}, {1, 0}, {1, 1}, {2, 0}, {2, 1}}},
		{catalogOf(1, dimOf(3), dimOf(4, 2)), []api.Node{{0, 0}, {0, 1}, {0, 2}, {1, 0}, {1, 1}, {1, 2}}},
	} {
		if got := All(x.c); !slices.Equal(got, x.want) || Count(x.c) != len(x.want) {
			t.Errorf("All(%v): %v, Count %d, not %v", x.c, got, Count(x.c), x.want)
		}
	}
	wide := goods()[len(goods())-1]
	if got := Count(wide); got != 625 {
		t.Errorf("Count of four dimensions of four levels: %d, not 625", got)
	}
}

// P5.2: how many places a node has, 0 of one that is none of the catalog's.
func TestCost(t *testing.T) {
	for _, c := range goods() {
		for _, v := range tried() {
			want := 0
			if isNode(c, v) {
				want = 1
				for dim, level := range v {
					want *= sizesOf(c, dim)[level]
				}
			}
			if got := Cost(c, v); got != want {
				t.Fatalf("Cost(%v, %v): %d, not %d", c, v, got, want)
			}
		}
		if got := Cost(c, Whole(c)); got != 1 {
			t.Errorf("Cost(%v, the whole): %d, not 1", c, got)
		}
	}
}

// P5.2: costs written out, the greatest that there is among them.
func TestCostExamples(t *testing.T) {
	two := catalogOf(1, dimOf(4, 2), dimOf(3))
	wide := goods()[len(goods())-1]
	for _, x := range []struct {
		c    api.Catalog
		v    api.Node
		want int
	}{
		{two, api.Node{}, 12}, {two, api.Node{0, 1}, 4}, {two, api.Node{1}, 6}, {two, api.Node{1, 1}, 2}, {two, api.Node{2}, 3}, {two, api.Node{2, 1}, 1},
		{two, api.Node{3}, 0}, {two, api.Node{0, 2}, 0}, {two, api.Node{0, 0, 1}, 0}, {two, api.Node{0, 0, 0, 255}, 0},
		{wide, api.Node{}, 40 * 40 * 40 * 40}, {wide, api.Node{4, 3, 4, 4}, 40}, {wide, api.Node{4, 4, 4, 4}, 1}, {wide, api.Node{4, 4, 4, 5}, 0},
	} {
		if got := Cost(x.c, x.v); got != x.want {
			t.Errorf("Cost(%v, %v): %d, not %d", x.c, x.v, got, x.want)
		}
	}
}

// P5.2: a node's covers, none of a node that is none of the catalog's.
func TestCovers(t *testing.T) {
	for _, c := range goods() {
		for _, v := range tried() {
			var want []api.Node
			if isNode(c, v) {
				want = coversOf(c, v)
			}
			if got := Covers(c, v); !slices.Equal(got, want) {
				t.Fatalf("Covers(%v, %v): %v, not %v", c, v, got, want)
			}
		}
	}
}

// P5.2: covers written out, at the base, in between, at the whole, and of no node.
func TestCoversExamples(t *testing.T) {
	c := catalogOf(1, dimOf(4, 2), dimOf(3), dimOf(6, 5, 2))
	for _, x := range []struct {
		v    api.Node
		want []api.Node
	}{
		{api.Node{}, []api.Node{{1, 0, 0}, {0, 1, 0}, {0, 0, 1}}},
		{api.Node{1, 0, 2}, []api.Node{{2, 0, 2}, {1, 1, 2}, {1, 0, 3}}},
		{api.Node{1, 1, 3}, []api.Node{{2, 1, 3}}},
		{api.Node{2, 0, 3}, []api.Node{{2, 1, 3}}},
		{api.Node{2, 1, 1}, []api.Node{{2, 1, 2}}},
		{api.Node{2, 1, 3}, nil}, {api.Node{3}, nil}, {api.Node{0, 2}, nil}, {api.Node{0, 0, 4}, nil}, {api.Node{0, 0, 0, 1}, nil}, {api.Node{255}, nil},
	} {
		if got := Covers(c, x.v); !slices.Equal(got, x.want) {
			t.Errorf("Covers of %v: %v, not %v", x.v, got, x.want)
		}
	}
}

// P5.3: each node of a rank above 0 covers one that is below it; what it covers is one rank lower.
func TestCoversOne(t *testing.T) {
	for _, c := range goods() {
		covered := map[api.Node]int{}
		for _, u := range All(c) {
			for _, v := range Covers(c, u) {
				if !Good(c, v) || !Below(u, v) || Rank(v) != Rank(u)+1 {
					t.Errorf("%v: %v is told to cover %v", c, v, u)
				}
				covered[v]++
			}
		}
		for _, v := range All(c) {
			if (covered[v] > 0) != (Rank(v) > 0) {
				t.Errorf("%v: %v covers %d", c, v, covered[v])
			}
		}
	}
}
