package schema

import (
	"math"
	"slices"
	"testing"

	"cuboid/api"
)

// dimOf: a dimension of levels of so many members, which belong to the next level's in turns, from its last one on.
func dimOf(sizes ...int) api.Dim {
	d := api.Dim{Sizes: sizes}
	for level, n := range sizes[1:] {
		var up []int
		for m := range sizes[level] {
			up = append(up, (n-1+5*m)%n)
		}
		d.Up = append(d.Up, up)
	}
	return d
}

func catalogOf(measures int, dims ...api.Dim) api.Catalog {
	return api.Catalog{Dims: dims, Measures: measures}
}

// goods: catalogs of 1 to MaxDims dimensions, of 1 to MaxLevels levels, of 1 to MaxMembers members, of 1 and of
// MaxMeasures measures.
func goods() []api.Catalog {
	return []api.Catalog{
		catalogOf(1, dimOf(1)),
		catalogOf(1, dimOf(3)),
		catalogOf(1, api.Dim{Sizes: []int{2}, Up: [][]int{}}),
		catalogOf(api.MaxMeasures, dimOf(api.MaxMembers)),
		catalogOf(1, dimOf(1, 1)),
		catalogOf(api.MaxMeasures, dimOf(4, 2), dimOf(3)),
		catalogOf(1, dimOf(3), dimOf(4, 2)),
		catalogOf(1, dimOf(1, api.MaxMembers), dimOf(api.MaxMembers, 1)),
		catalogOf(1, dimOf(2, 3), dimOf(5, 3, 2), dimOf(1)),
		catalogOf(api.MaxMeasures, dimOf(1), dimOf(1), dimOf(1), dimOf(1)),
		catalogOf(1, dimOf(2), dimOf(4, 2), dimOf(5, 3, 2), dimOf(6, 4, 3, 2)),
		catalogOf(api.MaxMeasures, dimOf(7, 5, 3, 2), dimOf(3, 3, 3), dimOf(2, 4), dimOf(9)),
		catalogOf(api.MaxMeasures, dimOf(40, 40, 40, 40), dimOf(40, 1, 40, 1), dimOf(1, 40, 1, 40), dimOf(40, 40, 40, 40)),
	}
}

// badDims: dimensions that may not be.
func badDims() []api.Dim {
	long := make([]int, api.MaxMembers+1)
	return []api.Dim{
		{}, {Sizes: []int{}, Up: [][]int{}}, {Up: [][]int{{0}}}, {Sizes: []int{0}}, {Sizes: []int{-1}},
		{Sizes: []int{api.MaxMembers + 1}}, {Sizes: []int{math.MaxInt}}, {Sizes: []int{math.MinInt}},
		{Sizes: []int{1}, Up: [][]int{{0}}}, {Sizes: []int{1, 1}}, {Sizes: []int{1, 1}, Up: [][]int{{}}},
		{Sizes: []int{1, 1}, Up: [][]int{{0, 0}}}, {Sizes: []int{1, 1}, Up: [][]int{{1}}}, {Sizes: []int{2, 2}, Up: [][]int{{0, -1}}},
		{Sizes: []int{len(long), 1}, Up: [][]int{long}}, dimOf(1, 1, 1, 1, 1), {Sizes: make([]int, 5000)},
	}
}

// bads: catalogs that may not be.
func bads() []api.Catalog {
	one := dimOf(1)
	all := []api.Catalog{{}, {Dims: []api.Dim{}, Measures: 1}, catalogOf(1, one, one, one, one, one), catalogOf(1, make([]api.Dim, 5000)...)}
	for _, measures := range []int{0, -1, api.MaxMeasures + 1, math.MinInt, math.MaxInt} {
		all = append(all, catalogOf(measures), catalogOf(measures, one), catalogOf(measures, one, one, one, one))
	}
	for _, bad := range badDims() {
		for dims := range api.MaxDims {
			for place := range dims + 1 {
				c := catalogOf(1, slices.Repeat([]api.Dim{one}, dims+1)...)
				c.Dims[place] = bad
				all = append(all, c)
			}
		}
	}
	return all
}

// copied: c in memory of its own.
func copied(c api.Catalog) api.Catalog {
	c.Dims = slices.Clone(c.Dims)
	for i, d := range c.Dims {
		c.Dims[i] = api.Dim{Sizes: slices.Clone(d.Sizes), Up: slices.Clone(d.Up)}
		for level, list := range d.Up {
			c.Dims[i].Up[level] = slices.Clone(list)
		}
	}
	return c
}

// changed: c in memory of its own, with one change.
func changed(c api.Catalog, change func(c *api.Catalog)) api.Catalog {
	c = copied(c)
	change(&c)
	return c
}

// P4.1: which catalogs may be.
func TestGood(t *testing.T) {
	for _, c := range goods() {
		if !Good(c) {
			t.Errorf("%v may be", c)
		}
	}
	for _, c := range bads() {
		if Good(c) {
			t.Errorf("%v may not be", c)
		}
	}
}

// P4.1, P4.2: of a catalog that may not be there are no levels, no places, no bytes.
func TestNothingOfBads(t *testing.T) {
	for _, c := range bads() {
		for _, dim := range []int{math.MinInt, -1, 0, 1, 2, 3, 4, 5, math.MaxInt} {
			if got := Levels(c, dim); got != 0 {
				t.Errorf("Levels(%v, %d): %d, not 0", c, dim, got)
			}
		}
		for _, v := range []api.Node{{}, {1}, {0, 1}, {1, 1, 1, 1}, {4, 4, 4, 4}} {
			if Right(c, v, api.Coord{}) {
				t.Errorf("Right(%v, %v, all 0)", c, v)
			}
		}
		if got := Bytes(c); len(got) != 0 {
			t.Errorf("Bytes(%v): %x", c, got)
		}
	}
}

// P4.1: a dimension's levels, the whole counted, and 0 of dimensions that are none.
func TestLevels(t *testing.T) {
	c := catalogOf(1, dimOf(2), dimOf(4, 2), dimOf(5, 3, 2), dimOf(6, 4, 3, 2))
	for dim, want := range []int{2, 3, 4, 5, 0, 0} {
		if got := Levels(c, dim); got != want {
			t.Errorf("Levels of %d: %d, not %d", dim, got, want)
		}
	}
	for _, c := range goods() {
		for dim, d := range c.Dims {
			if got := Levels(c, dim); got != len(d.Sizes)+1 {
				t.Errorf("Levels(%v, %d): %d, not %d", c, dim, got, len(d.Sizes)+1)
			}
		}
		for _, dim := range []int{math.MinInt, -2, -1, len(c.Dims), len(c.Dims) + 1, api.MaxDims, math.MaxInt} {
			if got := Levels(c, dim); got != 0 {
				t.Errorf("Levels(%v, %d): %d, not 0", c, dim, got)
			}
		}
	}
}

// spot: what a node and a place have at one dimension, and whether the place is right there.
type spot struct {
	level, member uint8
	right         bool
}

// spotsOf: at each level of d the first and the last member and those behind it, at the whole too, and levels behind
// the whole.
func spotsOf(d api.Dim) []spot {
	var all []spot
	for level, n := range slices.Concat(d.Sizes, []int{1}) {
		last, here := uint8(n-1), uint8(level)
		all = append(all, spot{here, 0, true}, spot{here, last, true}, spot{here, last + 1, false}, spot{here, 255, false})
	}
	for _, level := range []int{len(d.Sizes) + 1, len(d.Sizes) + 2, 255} {
		all = append(all, spot{uint8(level), 0, false}, spot{uint8(level), 1, false})
	}
	return all
}

// spotsBeyond: of the places behind the last dimension.
func spotsBeyond() []spot {
	return []spot{{0, 0, true}, {0, 1, false}, {0, 255, false}, {1, 0, false}, {1, 1, false}, {255, 0, false}}
}

// someSpots: of each of the four places of a node those that spotsOf and spotsBeyond tell.
func someSpots(c api.Catalog) [api.MaxDims][]spot {
	var all [api.MaxDims][]spot
	for i := range all {
		all[i] = spotsBeyond()
		if i < len(c.Dims) {
			all[i] = spotsOf(c.Dims[i])
		}
	}
	return all
}

func holdRight(t *testing.T, c api.Catalog, spots [api.MaxDims]spot) {
	t.Helper()
	var v api.Node
	var at api.Coord
	want := true
	for i, s := range spots {
		v[i], at[i] = s.level, s.member
		want = want && s.right
	}
	if got := Right(c, v, at); got != want {
		t.Fatalf("Right(%v, %v, %v): %v, not %v", c, v, at, got, want)
	}
}

// P4.1: places of nodes, and those that are none at one of the four places or at several.
func TestRight(t *testing.T) {
	for _, c := range goods() {
		all := someSpots(c)
		for _, p := range all[0] {
			for _, q := range all[1] {
				for _, r := range all[2][:min(len(all[2]), 9)] {
					for _, s := range all[3][:min(len(all[3]), 9)] {
						holdRight(t, c, [api.MaxDims]spot{p, q, r, s})
					}
				}
			}
		}
		for i, list := range all {
			spots := [api.MaxDims]spot{{right: true}, {right: true}, {right: true}, {right: true}}
			for _, s := range list {
				spots[i] = s
				holdRight(t, c, spots)
			}
		}
	}
}

// P4.1: of one small catalog each node and place, also such as no catalog has.
func TestRightOfAll(t *testing.T) {
	c := catalogOf(1, dimOf(4, 2))
	for level := range 256 {
		for member := range 256 {
			want := level == 0 && member < 4 || level == 1 && member < 2 || level == 2 && member == 0
			if got := Right(c, api.Node{uint8(level)}, api.Coord{uint8(member)}); got != want {
				t.Errorf("Right of %d, %d: %v, not %v", level, member, got, want)
			}
		}
	}
}

// others: c with one number, one list, one dimension changed.
func others(c api.Catalog) []api.Catalog {
	all := []api.Catalog{
		changed(c, func(c *api.Catalog) { c.Measures++ }),
		changed(c, func(c *api.Catalog) { c.Dims = append(c.Dims, api.Dim{}) }),
	}
	for i, d := range c.Dims {
		all = append(all,
			changed(c, func(c *api.Catalog) { c.Dims = slices.Delete(c.Dims, i, i+1) }),
			changed(c, func(c *api.Catalog) { c.Dims[i].Sizes = append(c.Dims[i].Sizes, 1) }),
			changed(c, func(c *api.Catalog) { c.Dims[i].Up = append(c.Dims[i].Up, nil) }),
		)
		for level := range d.Sizes {
			all = append(all, changed(c, func(c *api.Catalog) { c.Dims[i].Sizes[level]-- }))
		}
		for level, list := range d.Up {
			all = append(all, changed(c, func(c *api.Catalog) { c.Dims[i].Up[level] = append(c.Dims[i].Up[level], 0) }))
			for m := range list {
				all = append(all,
					changed(c, func(c *api.Catalog) { c.Dims[i].Up[level][m]++ }),
					changed(c, func(c *api.Catalog) { c.Dims[i].Up[level] = slices.Delete(c.Dims[i].Up[level], m, m+1) }),
				)
			}
		}
	}
	return all
}

// huge: others would tell too many of such a c.
func huge(c api.Catalog) bool {
	return len(c.Dims) > 100 || slices.ContainsFunc(c.Dims, func(d api.Dim) bool { return len(d.Sizes) > 100 })
}

// P4.1: a catalog is like its copy, and unlike what differs in one thing, whether they may be or not.
func TestSame(t *testing.T) {
	for _, c := range slices.Concat(goods(), bads()) {
		if !Same(c, copied(c)) || !Same(copied(c), c) {
			t.Errorf("%v is not like its copy", c)
		}
		if huge(c) {
			continue
		}
		for _, other := range others(c) {
			if Same(c, other) || Same(other, c) {
				t.Errorf("%v is like %v", c, other)
			}
		}
	}
	for i, a := range goods() {
		for j, b := range goods() {
			if Same(a, b) != (i == j) {
				t.Errorf("Same(%v, %v): %v", a, b, Same(a, b))
			}
		}
	}
}

// P4.1: the order counts; nil lists and empty ones are one, but a list in Up that is empty is one list.
func TestSameEdges(t *testing.T) {
	a, b := dimOf(4, 2), dimOf(3)
	if Same(catalogOf(1, a, b), catalogOf(1, b, a)) {
		t.Error("turned dimensions are alike")
	}
	for _, x := range []struct {
		a, b api.Dim
		want bool
	}{
		{api.Dim{}, api.Dim{Sizes: []int{}, Up: [][]int{}}, true},
		{api.Dim{Sizes: []int{3}}, api.Dim{Sizes: []int{3}, Up: [][]int{}}, true},
		{api.Dim{Up: [][]int{nil}}, api.Dim{Up: [][]int{{}}}, true},
		{api.Dim{Up: [][]int{nil}}, api.Dim{}, false},
		{api.Dim{Up: [][]int{{}}}, api.Dim{Up: [][]int{{}, {}}}, false},
		{api.Dim{Up: [][]int{{1}, {}}}, api.Dim{Up: [][]int{{}, {1}}}, false},
		{api.Dim{Up: [][]int{{1, 2}}}, api.Dim{Up: [][]int{{1}, {2}}}, false},
		{api.Dim{Sizes: []int{math.MaxInt}}, api.Dim{Sizes: []int{math.MinInt}}, false},
		{api.Dim{Sizes: []int{1}}, api.Dim{Sizes: []int{1, 1}}, false},
	} {
		p, q := catalogOf(1, x.a), catalogOf(1, x.b)
		if Same(p, q) != x.want || Same(q, p) != x.want {
			t.Errorf("Same(%v, %v) is not %v", p, q, x.want)
		}
	}
	for _, measures := range []int{math.MinInt, -1, 0, 1, 9, math.MaxInt} {
		p, q := catalogOf(measures), api.Catalog{Dims: []api.Dim{}, Measures: measures}
		if !Same(p, q) || !Same(q, p) || Same(p, catalogOf(2)) {
			t.Errorf("Same of no dimensions and %d measures", measures)
		}
	}
}
