package lift

import (
	"math"
	"slices"
	"testing"

	"cuboid/api"
)

// dimOf: a dimension of levels of so many members, each of which belongs to that of the next level which the rule
// tells.
func dimOf(rule func(m, next int) int, sizes ...int) api.Dim {
	d := api.Dim{Sizes: sizes}
	for level, next := range sizes[1:] {
		var list []int
		for m := range sizes[level] {
			list = append(list, rule(m, next))
		}
		d.Up = append(d.Up, list)
	}
	return d
}

// inTurn: neighbours belong to members unlike.
func inTurn(m, next int) int { return m % next }

// backwards: the first ones belong to the last member.
func backwards(m, next int) int { return next - 1 - m%next }

// last: all belong to the last member, and nobody to the others.
func last(_, next int) int { return next - 1 }

func catalogOf(dims ...api.Dim) api.Catalog {
	return api.Catalog{Dims: dims, Measures: 1}
}

// example: the catalog of the chapter's example.
func example() api.Catalog {
	return catalogOf(api.Dim{Sizes: []int{4, 2}, Up: [][]int{{0, 0, 1, 1}}})
}

// goods: catalogs of 1 to MaxDims dimensions, of 1 to MaxLevels levels, of 1 to MaxMembers members, some of which
// nobody belongs to; few enough places that all can be gone through.
func goods() []api.Catalog {
	return []api.Catalog{
		example(),
		catalogOf(dimOf(inTurn, 1)),
		catalogOf(dimOf(inTurn, api.MaxMembers)),
		catalogOf(dimOf(inTurn, 1, 1, 1, 1)),
		catalogOf(dimOf(backwards, 7, 5, 3)),
		catalogOf(dimOf(inTurn, 12, 7, 4, 2)),
		catalogOf(dimOf(last, 3, 4, 5, 2)),
		catalogOf(dimOf(inTurn, 2, 3), dimOf(inTurn, 2)),
		catalogOf(dimOf(inTurn, 3), dimOf(backwards, 4, 2)),
		catalogOf(dimOf(last, 1, api.MaxMembers), dimOf(inTurn, api.MaxMembers, 1)),
		catalogOf(dimOf(backwards, 2, 3), dimOf(inTurn, 7, 5, 3, 4), dimOf(last, 1)),
		catalogOf(dimOf(inTurn, 1), dimOf(inTurn, 1), dimOf(inTurn, 1), dimOf(inTurn, 1)),
		catalogOf(dimOf(inTurn, 2), dimOf(last, 3, 2), dimOf(backwards, 4, 3, 2), dimOf(inTurn, 2, 3, 2, 2)),
		catalogOf(dimOf(backwards, 3, 2, 1, 2), dimOf(inTurn, 4, 3), dimOf(last, 2, 3), dimOf(inTurn, 3)),
	}
}

// wide: a catalog of as many dimensions, levels and members as there may be.
func wide() api.Catalog {
	return catalogOf(dimOf(inTurn, 40, 40, 40, 40), dimOf(backwards, 40, 40, 40, 40), dimOf(last, 40, 40, 40, 40), dimOf(inTurn, 40, 7, 40, 3))
}

// badDims: dimensions that may not be.
func badDims() []api.Dim {
	return []api.Dim{
		{}, {Up: [][]int{{0}}}, {Sizes: []int{0}}, {Sizes: []int{-1}}, {Sizes: []int{api.MaxMembers + 1}}, {Sizes: []int{math.MaxInt}},
		{Sizes: []int{1, 1}}, {Sizes: []int{1, 1}, Up: [][]int{{1}}}, {Sizes: []int{1, 1}, Up: [][]int{{}}}, {Sizes: []int{1}, Up: [][]int{{0}}},
		dimOf(inTurn, 1, 1, 1, 1, 1), dimOf(inTurn, api.MaxMembers+1, 1), {Sizes: make([]int, 5000)},
	}
}

// bads: catalogs that may not be, some of which differ from one that may be in one thing alone.
func bads() []api.Catalog {
	one := dimOf(inTurn, 2, 1)
	all := []api.Catalog{{}, catalogOf(), catalogOf(one, one, one, one, one), catalogOf(slices.Repeat([]api.Dim{one}, 5000)...)}
	for _, measures := range []int{0, -1, api.MaxMeasures + 1, math.MinInt, math.MaxInt} {
		all = append(all, api.Catalog{Dims: []api.Dim{one}, Measures: measures})
	}
	for _, bad := range badDims() {
		for dims := range api.MaxDims {
			for place := range dims + 1 {
				c := catalogOf(slices.Repeat([]api.Dim{one}, dims+1)...)
				c.Dims[place] = bad
				all = append(all, c)
			}
		}
	}
	return all
}

// levelsOf: how many levels a dimension of a good c has, the whole counted; beyond the dimensions there is only a 0 to
// name, and a 0 to be.
func levelsOf(c api.Catalog, dim int) int {
	if dim >= len(c.Dims) {
		return 1
	}
	return len(c.Dims[dim].Sizes) + 1
}

// membersOf: how many members one of those levels has.
func membersOf(c api.Catalog, dim, level int) int {
	if level == levelsOf(c, dim)-1 {
		return 1
	}
	return c.Dims[dim].Sizes[level]
}

func isNode(c api.Catalog, v api.Node) bool {
	for dim, level := range v {
		if int(level) >= levelsOf(c, dim) {
			return false
		}
	}
	return true
}

func isPlace(c api.Catalog, v api.Node, at api.Coord) bool {
	if !isNode(c, v) {
		return false
	}
	for dim, m := range at {
		if int(m) >= membersOf(c, dim, int(v[dim])) {
			return false
		}
	}
	return true
}

func isBelow(a, b api.Node) bool {
	return a[0] <= b[0] && a[1] <= b[1] && a[2] <= b[2] && a[3] <= b[3]
}

// product: all fours of numbers, the first below sizes[0], and so on; rising.
func product[F ~[4]uint8](sizes [4]int) []F {
	var all []F
	for n := range sizes[0] * sizes[1] * sizes[2] * sizes[3] {
		var four F
		for i := 3; i >= 0; i-- {
			four[i] = uint8(n % sizes[i])
			n /= sizes[i]
		}
		all = append(all, four)
	}
	return all
}

// nodesOf: a good c's nodes.
func nodesOf(c api.Catalog) []api.Node {
	var levels [4]int
	for dim := range levels {
		levels[dim] = levelsOf(c, dim)
	}
	return product[api.Node](levels)
}

// placesOf: the places of one of c's nodes, rising.
func placesOf(c api.Catalog, v api.Node) []api.Coord {
	var members [4]int
	for dim := range members {
		members[dim] = membersOf(c, dim, int(v[dim]))
	}
	return product[api.Coord](members)
}

// spoilt: the four with one of its numbers another one, at each place.
func spoilt[F ~[4]uint8](four F) []F {
	var all []F
	for i := range four {
		for _, n := range []uint8{1, 2, 4, 5, 6, 40, 128, 255} {
			other := four
			other[i] = four[i] + n
			all = append(all, other)
		}
	}
	return all
}

// memberOf: the member of the level to that m of the level from belongs to, step by step.
func memberOf(c api.Catalog, dim, from, to, m int) int {
	for ; from < to; from++ {
		if from >= len(c.Dims[dim].Up) {
			return 0
		}
		m = c.Dims[dim].Up[from][m]
	}
	return m
}

// toOf: what the chapter says of To, of a good c.
func toOf(c api.Catalog, from, to api.Node, at api.Coord) (api.Coord, bool) {
	if !isPlace(c, from, at) || !isNode(c, to) || !isBelow(from, to) {
		return api.Coord{}, false
	}
	for dim, m := range at {
		at[dim] = uint8(memberOf(c, dim, int(from[dim]), int(to[dim]), int(m)))
	}
	return at, true
}

func holdTo(t *testing.T, c api.Catalog, from, to api.Node, at api.Coord) {
	t.Helper()
	want, is := toOf(c, from, to, at)
	if got, ok := To(c, from, to, at); got != want || ok != is {
		t.Fatalf("To(%v, %v, %v, %v): %v, %v, not %v, %v", c, from, to, at, got, ok, want, is)
	}
}

// P6.1: each place of each node, to each node: to itself, to a coarser one, to a finer one, to one that is neither.
func TestTo(t *testing.T) {
	for _, c := range goods() {
		for _, from := range nodesOf(c) {
			for _, at := range placesOf(c, from) {
				for _, to := range nodesOf(c) {
					holdTo(t, c, from, to, at)
				}
			}
		}
	}
}

// P6.1: nodes that are none of the catalog's, one level behind the whole, beyond the dimensions, with numbers up to
// 255; places that are none of the node's.
func TestToOfWrong(t *testing.T) {
	for _, c := range goods() {
		all := nodesOf(c)
		top := all[len(all)-1]
		for _, v := range all {
			places := placesOf(c, v)
			end := places[len(places)-1]
			for _, other := range spoilt(v) {
				holdTo(t, c, v, other, end)
				holdTo(t, c, other, top, end)
				holdTo(t, c, other, other, api.Coord{})
				holdTo(t, c, other, other, end)
			}
			for _, at := range spoilt(end) {
				holdTo(t, c, v, v, at)
				holdTo(t, c, v, top, at)
			}
		}
	}
}

// P6.1: the example, and some more written out.
func TestToExamples(t *testing.T) {
	c := catalogOf(api.Dim{Sizes: []int{4, 2}, Up: [][]int{{0, 0, 1, 1}}}, api.Dim{Sizes: []int{2, 3, 2}, Up: [][]int{{2, 0}, {1, 0, 1}}})
	for _, x := range []struct {
		c        api.Catalog
		from, to api.Node
		at, want api.Coord
		ok       bool
	}{
		{example(), api.Node{0}, api.Node{1}, api.Coord{3}, api.Coord{1}, true},
		{example(), api.Node{0}, api.Node{2}, api.Coord{3}, api.Coord{0}, true},
		{c, api.Node{0, 0}, api.Node{0, 0}, api.Coord{3, 1}, api.Coord{3, 1}, true},
		{c, api.Node{0, 0}, api.Node{1, 1}, api.Coord{1, 0}, api.Coord{0, 2}, true},
		{c, api.Node{0, 0}, api.Node{1, 2}, api.Coord{2, 1}, api.Coord{1, 1}, true},
		{c, api.Node{0, 1}, api.Node{0, 2}, api.Coord{3, 1}, api.Coord{3, 0}, true},
		{c, api.Node{1, 1}, api.Node{2, 3}, api.Coord{1, 2}, api.Coord{0, 0}, true},
		{c, api.Node{2, 3}, api.Node{2, 3}, api.Coord{0, 0}, api.Coord{0, 0}, true},
		{c, api.Node{1, 1}, api.Node{0, 1}, api.Coord{1, 2}, api.Coord{}, false},
		{c, api.Node{1, 1}, api.Node{2, 0}, api.Coord{1, 2}, api.Coord{}, false},
		{c, api.Node{0, 0}, api.Node{1, 1}, api.Coord{4, 0}, api.Coord{}, false},
		{c, api.Node{0, 0}, api.Node{1, 1}, api.Coord{0, 2}, api.Coord{}, false},
		{c, api.Node{0, 0}, api.Node{1, 1}, api.Coord{0, 0, 1}, api.Coord{}, false},
		{c, api.Node{0, 0}, api.Node{1, 1}, api.Coord{0, 0, 0, 255}, api.Coord{}, false},
		{c, api.Node{0, 0}, api.Node{3, 1}, api.Coord{1, 1}, api.Coord{}, false},
		{c, api.Node{0, 0}, api.Node{1, 4}, api.Coord{1, 1}, api.Coord{}, false},
		{c, api.Node{0, 0}, api.Node{1, 1, 1}, api.Coord{1, 1}, api.Coord{}, false},
		{c, api.Node{3, 0}, api.Node{3, 0}, api.Coord{}, api.Coord{}, false},
		{c, api.Node{255, 255, 255, 255}, api.Node{255, 255, 255, 255}, api.Coord{}, api.Coord{}, false},
	} {
		if got, ok := To(x.c, x.from, x.to, x.at); got != x.want || ok != x.ok {
			t.Errorf("To(%v, %v, %v): %v, %v, not %v, %v", x.from, x.to, x.at, got, ok, x.want, x.ok)
		}
	}
}

// P6.1: as many dimensions, levels and members as there may be.
func TestToOfWide(t *testing.T) {
	c := wide()
	for _, from := range nodesOf(c) {
		for _, step := range product[api.Node]([4]int{2, 2, 2, 2}) {
			for _, at := range []api.Coord{{}, {39, 38, 37, 2}, {20, 39, 0, 6}, {39, 39, 39, 39}, {40, 1, 1, 1}, {1, 1, 1, 40}} {
				to := api.Node{from[0] + step[0], from[1] + step[1], from[2] + 2*step[2], from[3] + 3*step[3]}
				holdTo(t, c, from, to, at)
			}
		}
	}
}

// P6.1, P6.2, P6.3: of a catalog that may not be there is nothing.
func TestNothingOfBads(t *testing.T) {
	for i, c := range bads() {
		for _, from := range product[api.Node]([4]int{2, 1, 1, 2}) {
			for _, to := range []api.Node{from, {1, 1, 1, 1}, {2, 2, 2, 2}, {1}, {255, 255, 255, 255}} {
				if at, ok := To(c, from, to, api.Coord{}); ok || at != (api.Coord{}) {
					t.Errorf("bad %d: To(%v, %v): %v, %v", i, from, to, at, ok)
				}
				if got := Fiber(c, to, api.Coord{}, from); len(got) != 0 {
					t.Errorf("bad %d: Fiber(%v, %v): %v", i, to, from, got)
				}
			}
			for dim := range 6 {
				for level := range 3 {
					f := api.Fix{Dim: dim, Level: level, Members: []int{0, 1, 2}}
					if Within(c, from, api.Coord{}, f) {
						t.Errorf("bad %d: %v is within %v", i, from, f)
					}
				}
			}
		}
	}
}
