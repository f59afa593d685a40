package lattice

import (
	"testing"

	"cuboid/api"
)

// holdTwo holds what is told of two nodes against what the chapter says, number by number.
func holdTwo(t *testing.T, a, b api.Node) {
	t.Helper()
	below, meet, join := true, a, a
	for dim := range a {
		if a[dim] > b[dim] {
			below, meet[dim] = false, b[dim]
		} else {
			join[dim] = b[dim]
		}
	}
	if got := Below(a, b); got != below {
		t.Fatalf("Below(%v, %v): %v", a, b, got)
	}
	if got := Meet(a, b); got != meet {
		t.Fatalf("Meet(%v, %v): %v, not %v", a, b, got, meet)
	}
	if got := Join(a, b); got != join {
		t.Fatalf("Join(%v, %v): %v, not %v", a, b, got, join)
	}
}

// P5.1: Below, Meet and Join of any two nodes, whether they are a catalog's or not.
func TestTwoNodes(t *testing.T) {
	all := nodesOver(0, 1, 127, 128, 255)
	for _, a := range all {
		for _, b := range all {
			holdTwo(t, a, b)
		}
	}
}

// P5.1: all numbers that there are, at each place.
func TestTwoNumbers(t *testing.T) {
	for dim := range api.MaxDims {
		a, b := api.Node{3, 3, 3, 3}, api.Node{3, 3, 3, 3}
		for p := range 256 {
			for q := range 256 {
				a[dim], b[dim] = uint8(p), uint8(q)
				holdTwo(t, a, b)
			}
		}
	}
}

// P5.1: the example, and some more written out.
func TestOrderExamples(t *testing.T) {
	if got := Meet(api.Node{0, 1}, api.Node{1, 0}); got != (api.Node{0, 0}) {
		t.Errorf("Meet of 0 1 and 1 0: %v, not 0 0", got)
	}
	if got := Join(api.Node{0, 1}, api.Node{1, 0}); got != (api.Node{1, 1}) {
		t.Errorf("Join of 0 1 and 1 0: %v, not 1 1", got)
	}
	for _, x := range []struct {
		a, b api.Node
		want bool
	}{
		{api.Node{}, api.Node{}, true}, {api.Node{2, 1}, api.Node{2, 1}, true}, {api.Node{255, 255, 255, 255}, api.Node{255, 255, 255, 255}, true},
		{api.Node{0, 1}, api.Node{1, 1}, true}, {api.Node{1, 1}, api.Node{0, 1}, false}, {api.Node{0, 1}, api.Node{1, 0}, false},
		{api.Node{0, 0, 0, 1}, api.Node{9, 9, 9, 0}, false}, {api.Node{9, 0, 0, 0}, api.Node{8, 9, 9, 9}, false}, {api.Node{}, api.Node{0, 0, 0, 255}, true},
	} {
		if got := Below(x.a, x.b); got != x.want {
			t.Errorf("Below(%v, %v): %v", x.a, x.b, got)
		}
	}
}

// P5.1: the four numbers together, beyond what one of them can hold too.
func TestRank(t *testing.T) {
	for _, v := range tried() {
		if got, want := Rank(v), int(v[0])+int(v[1])+int(v[2])+int(v[3]); got != want {
			t.Errorf("Rank(%v): %d, not %d", v, got, want)
		}
	}
	for _, x := range []struct {
		v    api.Node
		want int
	}{{api.Node{}, 0}, {api.Node{2, 1}, 3}, {api.Node{0, 0, 0, 7}, 7}, {api.Node{255, 1}, 256}, {api.Node{255, 255, 255, 255}, 1020}} {
		if got := Rank(x.v); got != x.want {
			t.Errorf("Rank(%v): %d, not %d", x.v, got, x.want)
		}
	}
}

// P5.3: what is below two is below their Meet, and nothing else is; so with their Join, the other way round.
func TestBelowTwo(t *testing.T) {
	all := nodesOver(0, 2, 255)
	for _, a := range all {
		for _, b := range all {
			for _, v := range all {
				if both := Below(v, a) && Below(v, b); both != Below(v, Meet(a, b)) {
					t.Fatalf("%v is below %v and %v: %v; below their Meet %v: %v", v, a, b, both, Meet(a, b), !both)
				}
				if both := Below(a, v) && Below(b, v); both != Below(Join(a, b), v) {
					t.Fatalf("%v and %v are below %v: %v; their Join %v is: %v", a, b, v, both, Join(a, b), !both)
				}
			}
		}
	}
}

// P5.1, P5.3: Meet and Join of a catalog's nodes are nodes of it.
func TestStaysWithinCatalog(t *testing.T) {
	for _, c := range goods()[:13] {
		all := All(c)
		for _, a := range all {
			if !Below(Base(), a) || !Below(a, Whole(c)) {
				t.Fatalf("%v: %v is not between the base and the whole", c, a)
			}
			for _, b := range all {
				if !Good(c, Meet(a, b)) || !Good(c, Join(a, b)) {
					t.Fatalf("%v: Meet %v, Join %v of %v and %v", c, Meet(a, b), Join(a, b), a, b)
				}
			}
		}
	}
}
