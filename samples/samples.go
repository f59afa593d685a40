// Package samples is an aid to the tests: catalogs that may be and such that may not be, and their nodes and places as
// the document's words have them, apart from the layers that tell them. No layer calls it.
package samples

import (
	"math"
	"slices"

	"cuboid/api"
)

// Dim tells a dimension of levels of so many members, each of which belongs to that of the next level which the rule
// tells.
func Dim(rule func(m, next int) int, sizes ...int) api.Dim {
	d := api.Dim{Sizes: sizes}
	for level, next := range sizes[1:] {
		var list []int
		for m := range sizes[level] {
			list = append(list, rule(m, next))
		}
		d.Up = append(d.Up, list)
	}
	return d
}

// InTurn is a rule: neighbours belong to members unlike.
func InTurn(m, next int) int { return m % next }

// Backwards is a rule: the first ones belong to the last member.
func Backwards(m, next int) int { return next - 1 - m%next }

// Last is a rule: all belong to the last member, and nobody to the others.
func Last(_, next int) int { return next - 1 }

// Catalog tells the catalog of these dimensions.
func Catalog(measures int, dims ...api.Dim) api.Catalog {
	return api.Catalog{Dims: dims, Measures: measures}
}

// Goods tells catalogs of 1 to MaxDims dimensions, of 1 to MaxLevels levels, of 1 to MaxMembers members, some of which
// nobody belongs to, of 1 to MaxMeasures measures; few enough places that all can be gone through.
func Goods() []api.Catalog {
	return []api.Catalog{
		Catalog(1, api.Dim{Sizes: []int{4, 2}, Up: [][]int{{0, 0, 1, 1}}}),
		Catalog(2, Dim(InTurn, 1)),
		Catalog(1, Dim(InTurn, api.MaxMembers)),
		Catalog(2, Dim(InTurn, 1, 1, 1, 1)),
		Catalog(1, Dim(Backwards, 7, 5, 3)),
		Catalog(2, Dim(InTurn, 12, 7, 4, 2)),
		Catalog(1, Dim(Last, 3, 4, 5, 2)),
		Catalog(2, Dim(InTurn, 2, 3), Dim(InTurn, 2)),
		Catalog(1, Dim(InTurn, 3), Dim(Backwards, 4, 2)),
		Catalog(2, Dim(Last, 1, api.MaxMembers), Dim(InTurn, api.MaxMembers, 1)),
		Catalog(1, Dim(Backwards, 2, 3), Dim(InTurn, 7, 5, 3, 4), Dim(Last, 1)),
		Catalog(2, Dim(InTurn, 1), Dim(InTurn, 1), Dim(InTurn, 1), Dim(InTurn, 1)),
		Catalog(1, Dim(InTurn, 2), Dim(Last, 3, 2), Dim(Backwards, 4, 3, 2), Dim(InTurn, 2, 3, 2, 2)),
		Catalog(2, Dim(Backwards, 3, 2, 1, 2), Dim(InTurn, 4, 3), Dim(Last, 2, 3), Dim(InTurn, 3)),
	}
}

// badDims tells dimensions that may not be.
func badDims() []api.Dim {
	return []api.Dim{
		{}, {Up: [][]int{{0}}}, {Sizes: []int{0}}, {Sizes: []int{-1}}, {Sizes: []int{api.MaxMembers + 1}}, {Sizes: []int{math.MaxInt}},
		{Sizes: []int{1, 1}}, {Sizes: []int{1, 1}, Up: [][]int{{1}}}, {Sizes: []int{1, 1}, Up: [][]int{{}}}, {Sizes: []int{1}, Up: [][]int{{0}}},
		Dim(InTurn, 1, 1, 1, 1, 1), Dim(InTurn, api.MaxMembers+1, 1), {Sizes: make([]int, 5000)},
	}
}

// Bads tells catalogs that may not be, some of which differ from one that may be in one thing alone.
func Bads() []api.Catalog {
	one := Dim(InTurn, 2, 1)
	all := []api.Catalog{{}, Catalog(1), Catalog(1, one, one, one, one, one), Catalog(1, slices.Repeat([]api.Dim{one}, 5000)...)}
	for _, measures := range []int{0, -1, api.MaxMeasures + 1, math.MinInt, math.MaxInt} {
		all = append(all, Catalog(measures, one))
	}
	for _, bad := range badDims() {
		for dims := range api.MaxDims {
			for place := range dims + 1 {
				c := Catalog(1, slices.Repeat([]api.Dim{one}, dims+1)...)
				c.Dims[place] = bad
				all = append(all, c)
			}
		}
	}
	return all
}

// Levels tells how many a dimension of a good c has, the whole counted; beyond the dimensions there is only a 0 to
// name, and a 0 to be.
func Levels(c api.Catalog, dim int) int {
	if dim >= len(c.Dims) {
		return 1
	}
	return len(c.Dims[dim].Sizes) + 1
}

// members tells how many one of those levels has.
func members(c api.Catalog, dim, level int) int {
	if level == Levels(c, dim)-1 {
		return 1
	}
	return c.Dims[dim].Sizes[level]
}

// IsNode tells whether v is one of a good c's nodes.
func IsNode(c api.Catalog, v api.Node) bool {
	for dim, level := range v {
		if int(level) >= Levels(c, dim) {
			return false
		}
	}
	return true
}

// IsPlace tells whether at is a place of v, and v one of a good c's nodes.
func IsPlace(c api.Catalog, v api.Node, at api.Coord) bool {
	if !IsNode(c, v) {
		return false
	}
	for dim, m := range at {
		if int(m) >= members(c, dim, int(v[dim])) {
			return false
		}
	}
	return true
}

// IsBelow tells whether no number of a is above b's.
func IsBelow(a, b api.Node) bool {
	return a[0] <= b[0] && a[1] <= b[1] && a[2] <= b[2] && a[3] <= b[3]
}

// Member tells the member of the level to that m of the level from belongs to, step by step, of a good c.
func Member(c api.Catalog, dim, from, to, m int) int {
	for ; from < to; from++ {
		if from >= len(c.Dims[dim].Up) {
			return 0
		}
		m = c.Dims[dim].Up[from][m]
	}
	return m
}

// Carried tells the place of the node to in which at, a place of from, lies; false where one of them is none of a good
// c's, or from is not below to.
func Carried(c api.Catalog, from, to api.Node, at api.Coord) (api.Coord, bool) {
	if !IsPlace(c, from, at) || !IsNode(c, to) || !IsBelow(from, to) {
		return api.Coord{}, false
	}
	for dim, m := range at {
		at[dim] = uint8(Member(c, dim, int(from[dim]), int(to[dim]), int(m)))
	}
	return at, true
}

// Product tells all fours of numbers, the first below sizes[0], and so on; rising.
func Product[F ~[4]uint8](sizes [4]int) []F {
	var all []F
	for n := range sizes[0] * sizes[1] * sizes[2] * sizes[3] {
		var four F
		for i := 3; i >= 0; i-- {
			four[i] = uint8(n % sizes[i])
			n /= sizes[i]
		}
		all = append(all, four)
	}
	return all
}

// Nodes tells a good c's nodes, rising.
func Nodes(c api.Catalog) []api.Node {
	var sizes [4]int
	for dim := range sizes {
		sizes[dim] = Levels(c, dim)
	}
	return Product[api.Node](sizes)
}

// Places tells the places of one of a good c's nodes, rising.
func Places(c api.Catalog, v api.Node) []api.Coord {
	var sizes [4]int
	for dim := range sizes {
		sizes[dim] = members(c, dim, int(v[dim]))
	}
	return Product[api.Coord](sizes)
}

// Spoilt tells the four with one of its numbers another one, at each place.
func Spoilt[F ~[4]uint8](four F) []F {
	var all []F
	for i := range four {
		for _, n := range []uint8{1, 2, 4, 5, 6, 40, 128, 255} {
			other := four
			other[i] = four[i] + n
			all = append(all, other)
		}
	}
	return all
}
