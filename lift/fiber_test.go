package lift

import (
	"slices"
	"testing"

	"cuboid/api"
	"cuboid/code"
	"cuboid/samples"
)

// fiberOf: what the chapter says of Fiber, of a good c of few places: those of from that are carried to at.
func fiberOf(c api.Catalog, to api.Node, at api.Coord, from api.Node) []api.Coord {
	if !samples.IsPlace(c, to, at) || !samples.IsNode(c, from) || !samples.IsBelow(from, to) {
		return nil
	}
	return slices.DeleteFunc(samples.Places(c, from), func(fine api.Coord) bool {
		coarse, _ := samples.Carried(c, from, to, fine)
		return coarse != at
	})
}

func holdFiber(t *testing.T, c api.Catalog, to api.Node, at api.Coord, from api.Node) {
	t.Helper()
	want := fiberOf(c, to, at, from)
	if got := Fiber(c, to, at, from); !slices.Equal(got, want) {
		t.Fatalf("Fiber(%v, %v, %v, %v): %v, not %v", c, to, at, from, got, want)
	}
}

// P6.2: each place of each node, of each node: of itself, of a finer one, of a coarser one, of one that is neither.
func TestFiber(t *testing.T) {
	for _, c := range samples.Goods() {
		for _, to := range samples.Nodes(c) {
			for _, at := range samples.Places(c, to) {
				for _, from := range samples.Nodes(c) {
					holdFiber(t, c, to, at, from)
				}
			}
		}
	}
}

// P6.2: rising by code.Key, each place once.
func TestFiberRises(t *testing.T) {
	for _, c := range samples.Goods() {
		for _, to := range samples.Nodes(c) {
			for _, at := range samples.Places(c, to) {
				got := Fiber(c, to, at, api.Node{})
				for i := 1; i < len(got); i++ {
					if code.Key(got[i-1]) >= code.Key(got[i]) {
						t.Fatalf("Fiber(%v, %v, %v): %v stands ahead of %v", c, to, at, got[i-1], got[i])
					}
				}
			}
		}
	}
}

// P6.2: nodes that are none of the catalog's, one level behind the whole, beyond the dimensions, with numbers up to
// 255; places that are none of the node's.
func TestFiberOfWrong(t *testing.T) {
	for _, c := range samples.Goods() {
		all := samples.Nodes(c)
		top := all[len(all)-1]
		for _, v := range all {
			places := samples.Places(c, v)
			end := places[len(places)-1]
			for _, other := range samples.Spoilt(v) {
				holdFiber(t, c, top, api.Coord{}, other)
				holdFiber(t, c, v, end, other)
				holdFiber(t, c, other, api.Coord{}, v)
				holdFiber(t, c, other, end, v)
				holdFiber(t, c, other, api.Coord{}, other)
			}
			for _, at := range samples.Spoilt(end) {
				holdFiber(t, c, v, at, v)
				holdFiber(t, c, v, at, api.Node{})
			}
		}
	}
}

// P6.2: the example, and some more written out: a member to which nobody belongs among them.
func TestFiberExamples(t *testing.T) {
	c := samples.Catalog(1, api.Dim{Sizes: []int{4, 2}, Up: [][]int{{1, 0, 1, 0}}}, api.Dim{Sizes: []int{2, 3}, Up: [][]int{{2, 0}}})
	for _, x := range []struct {
		c    api.Catalog
		to   api.Node
		at   api.Coord
		from api.Node
		want []api.Coord
	}{
		{example(), api.Node{1}, api.Coord{1}, api.Node{0}, []api.Coord{{2}, {3}}},
		{example(), api.Node{2}, api.Coord{0}, api.Node{1}, []api.Coord{{0}, {1}}},
		{example(), api.Node{2}, api.Coord{0}, api.Node{0}, []api.Coord{{0}, {1}, {2}, {3}}},
		{c, api.Node{1, 0}, api.Coord{1, 1}, api.Node{0, 0}, []api.Coord{{0, 1}, {2, 1}}},
		{c, api.Node{1, 2}, api.Coord{0, 0}, api.Node{0, 0}, []api.Coord{{1, 0}, {1, 1}, {3, 0}, {3, 1}}},
		{c, api.Node{2, 1}, api.Coord{0, 2}, api.Node{1, 0}, []api.Coord{{0, 0}, {1, 0}}},
		{c, api.Node{2, 1}, api.Coord{0, 1}, api.Node{0, 0}, nil},
		{c, api.Node{2, 1}, api.Coord{0, 1}, api.Node{2, 1}, []api.Coord{{0, 1}}},
		{c, api.Node{2, 2}, api.Coord{0, 0}, api.Node{2, 1}, []api.Coord{{0, 0}, {0, 1}, {0, 2}}},
		{c, api.Node{1, 0}, api.Coord{1, 1}, api.Node{2, 0}, nil},
		{c, api.Node{1, 0}, api.Coord{1, 1}, api.Node{0, 1}, nil},
		{c, api.Node{1, 0}, api.Coord{2, 1}, api.Node{0, 0}, nil},
		{c, api.Node{1, 0}, api.Coord{1, 1, 1}, api.Node{0, 0}, nil},
		{c, api.Node{3, 0}, api.Coord{0, 1}, api.Node{0, 0}, nil},
		{c, api.Node{1, 0, 1}, api.Coord{1, 1}, api.Node{0, 0, 1}, nil},
		{c, api.Node{1, 0}, api.Coord{1, 1}, api.Node{0, 0, 0, 1}, nil},
	} {
		if got := Fiber(x.c, x.to, x.at, x.from); !slices.Equal(got, x.want) {
			t.Errorf("Fiber(%v, %v, %v): %v, not %v", x.to, x.at, x.from, got, x.want)
		}
	}
}

// flat: four dimensions of one level.
func flat(sizes [4]int) api.Catalog {
	return samples.Catalog(1, samples.Dim(samples.InTurn, sizes[0]), samples.Dim(samples.InTurn, sizes[1]), samples.Dim(samples.InTurn, sizes[2]), samples.Dim(samples.InTurn, sizes[3]))
}

// P6.2: all places, or none where they are more than MaxPlaces, whichever dimension is the wide one. 5001 places no
// fiber can have (3 times a prime above MaxMembers); the least that is too many is 5005.
func TestFiberAtTheLimit(t *testing.T) {
	top := api.Node{1, 1, 1, 1}
	exact, beyond := 0, 0
	for a := range api.MaxMembers {
		for b := range a + 1 {
			for c := range b + 1 {
				for d := range c + 1 {
					sizes := [4]int{d + 1, a + 1, c + 1, b + 1}
					n := sizes[0] * sizes[1] * sizes[2] * sizes[3]
					if n < 4990 || n > 5010 {
						continue
					}
					want := n
					if n > api.MaxPlaces {
						want, beyond = 0, beyond+1
					} else if n == api.MaxPlaces {
						exact++
					}
					if got := Fiber(flat(sizes), top, api.Coord{}, api.Node{}); len(got) != want {
						t.Errorf("Fiber of %v members: %d places, not %d", sizes, len(got), want)
					}
				}
			}
		}
	}
	if exact == 0 || beyond == 0 {
		t.Errorf("%d fibers of MaxPlaces, %d above: nothing is tried", exact, beyond)
	}
}

// P6.2: a fiber of just MaxPlaces, place by place.
func TestFiberOfMaxPlaces(t *testing.T) {
	sizes := [4]int{5, 40, 1, 25}
	if got := Fiber(flat(sizes), api.Node{1, 1, 1, 1}, api.Coord{}, api.Node{}); !slices.Equal(got, samples.Product[api.Coord](sizes)) || len(got) != api.MaxPlaces {
		t.Errorf("Fiber: %d places", len(got))
	}
}

// P6.2: it is the fiber's places that are counted, not the node's.
func TestFiberOfWide(t *testing.T) {
	c := wide()
	for _, x := range []struct {
		to   api.Node
		at   api.Coord
		from api.Node
		want int
	}{
		{api.Node{4, 4, 4, 4}, api.Coord{}, api.Node{}, 0},
		{api.Node{4, 4, 4, 4}, api.Coord{}, api.Node{1, 1, 4, 3}, 4800},
		{api.Node{4, 4, 4, 4}, api.Coord{}, api.Node{1, 1, 4, 1}, 0},
		{api.Node{4, 4, 0, 0}, api.Coord{0, 0, 39, 39}, api.Node{}, 1600},
		{api.Node{0, 4, 1, 0}, api.Coord{7, 0, 39, 39}, api.Node{}, 1600},
		{api.Node{4, 4, 1, 0}, api.Coord{0, 0, 39, 39}, api.Node{}, 0},
		{api.Node{4, 4, 1, 0}, api.Coord{0, 0, 38, 39}, api.Node{}, 0},
		{api.Node{4, 4, 4, 2}, api.Coord{0, 0, 0, 7}, api.Node{0, 0, 4, 0}, 0},
		{api.Node{4, 3, 4, 1}, api.Coord{0, 5, 0, 6}, api.Node{0, 0, 4, 0}, 200},
		{api.Node{0, 0, 0, 0}, api.Coord{39, 39, 39, 39}, api.Node{}, 1},
	} {
		got := Fiber(c, x.to, x.at, x.from)
		if len(got) != x.want {
			t.Errorf("Fiber(%v, %v, %v): %d places, not %d", x.to, x.at, x.from, len(got), x.want)
		}
		for _, fine := range got {
			if at, ok := samples.Carried(c, x.from, x.to, fine); at != x.at || !ok {
				t.Fatalf("Fiber(%v, %v, %v): %v is carried to %v", x.to, x.at, x.from, fine, at)
			}
		}
	}
}

// P6.4: carried twice is carried once, over each node in between.
func TestCarriedTwice(t *testing.T) {
	for _, c := range samples.Goods() {
		for _, from := range samples.Nodes(c) {
			for _, by := range samples.Nodes(c) {
				if samples.IsBelow(from, by) {
					holdTwice(t, c, from, by)
				}
			}
		}
	}
}

// holdTwice carries the last and the middle one of from's places over by to a node that lies above both.
func holdTwice(t *testing.T, c api.Catalog, from, by api.Node) {
	t.Helper()
	places := samples.Places(c, from)
	for _, at := range []api.Coord{places[len(places)-1], places[len(places)/2]} {
		half, ok := To(c, from, by, at)
		if !ok || !samples.IsPlace(c, by, half) {
			t.Fatalf("To(%v, %v, %v, %v): %v, %v", c, from, by, at, half, ok)
		}
		for _, to := range samples.Nodes(c) {
			if !samples.IsBelow(by, to) {
				continue
			}
			once, _ := To(c, from, to, at)
			if twice, ok := To(c, by, to, half); twice != once || !ok {
				t.Fatalf("%v: %v of %v, over %v of %v to %v: %v, %v, not %v", c, at, from, half, by, to, twice, ok, once)
			}
		}
	}
}

// P6.4: a node's places are parted by what they are carried to: each lies in just one fiber, that of its To.
func TestFibersPart(t *testing.T) {
	for _, c := range samples.Goods() {
		for _, from := range samples.Nodes(c) {
			for _, to := range samples.Nodes(c) {
				if samples.IsBelow(from, to) {
					holdParts(t, c, from, to)
				}
			}
		}
	}
}

func holdParts(t *testing.T, c api.Catalog, from, to api.Node) {
	t.Helper()
	var all []api.Coord
	for _, at := range samples.Places(c, to) {
		for _, fine := range Fiber(c, to, at, from) {
			if got, ok := To(c, from, to, fine); got != at || !ok {
				t.Fatalf("%v: %v of %v lies in %v of %v, and is carried to %v, %v", c, fine, from, at, to, got, ok)
			}
			all = append(all, fine)
		}
	}
	slices.SortFunc(all, func(a, b api.Coord) int { return slices.Compare(a[:], b[:]) })
	if !slices.Equal(all, samples.Places(c, from)) {
		t.Fatalf("%v: the fibers of %v hold %v of %v", c, to, all, from)
	}
}
