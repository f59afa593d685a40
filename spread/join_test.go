package spread

import (
	"slices"
	"testing"

	"cuboid/api"
	"cuboid/samples"
)

// holdJoin asks for both together, of lists that may be, if v is a node.
func holdJoin(t *testing.T, c api.Catalog, v api.Node, a, b []api.Part) bool {
	t.Helper()
	var want []api.Part
	is := samples.IsNode(c, v)
	if is {
		want, is = spreadOf(c, v, slices.Concat(a, b))
	}
	for range 2 {
		got, ok := Join(c, v, a, b)
		hold(t, got, ok, want, is, "Join", c, v, a, b)
		if ok && !Good(c, v, got) {
			t.Fatalf("%v: %v may not be, of %v", c, got, v)
		}
	}
	return is
}

// P11.2: of each node two spreads, either way round: places in both, in the one alone; one of nothing.
func TestJoin(t *testing.T) {
	for _, c := range samples.Goods() {
		deltas := goods(c.Measures)
		for i, v := range samples.Nodes(c) {
			places := samples.Places(c, v)
			lists := [][]api.Part{nil, laid(places, deltas, i), laid(each(places, 2), deltas, i+1), laid(each(places, 3), deltas, i), laid(places[len(places)/2:], deltas, 2*i), laid(places[:1], deltas, i+1), laid(places[len(places)-1:], deltas, i)}
			for _, a := range lists {
				for _, b := range lists {
					if !holdJoin(t, c, v, a, b) {
						t.Fatalf("%v: %v and %v of %v can't be joined", c, a, b, v)
					}
				}
				for _, none := range [][]api.Part{nil, {}} {
					got, ok := Join(c, v, a, none)
					hold(t, got, ok, a, true, "Join with nothing", c, v, a)
					got, ok = Join(c, v, none, a)
					hold(t, got, ok, a, true, "Join of nothing", c, v, a)
				}
			}
		}
	}
}

// back: the spread that takes l back.
func back(l []api.Part) []api.Part {
	l = slices.Clone(l)
	for i, p := range l {
		for m, sum := range p.D.Sum {
			l[i].D.Sum[m] = -sum
		}
		l[i].D.N, l[i].D.In, l[i].D.Out = -p.D.N, p.D.Out, p.D.In
	}
	return l
}

// P11.2: what takes a spread back leaves nothing of it, and all that is beside it.
func TestJoinToNothing(t *testing.T) {
	for _, c := range samples.Goods() {
		for i, v := range samples.Nodes(c) {
			l := laid(samples.Places(c, v), goods(c.Measures), i)
			got, ok := Join(c, v, l, back(l))
			hold(t, got, ok, nil, true, "Join", c, v, l)
			got, ok = Join(c, v, back(l), l)
			hold(t, got, ok, nil, true, "Join", c, v, l)
			half := len(l) / 2
			got, ok = Join(c, v, l, back(l[half:]))
			hold(t, got, ok, l[:half], true, "Join", c, v, l)
			got, ok = Join(c, v, back(l[:half]), l)
			hold(t, got, ok, l[half:], true, "Join", c, v, l)
		}
	}
}

// P11.2: some written out: places of both by turns, what comes to nothing, what can't be joined.
func TestJoinWrittenOut(t *testing.T) {
	half := api.Node{1, 0}
	for _, x := range []struct {
		v          api.Node
		a, b, want []api.Part
		ok         bool
	}{
		{half, []api.Part{part(0, 1, comes(5)), part(1, 1, comes(4))}, []api.Part{part(0, 0, comes(3)), part(0, 2, goes(2)), part(1, 2, comes(1))}, []api.Part{part(0, 0, comes(3)), part(0, 1, comes(5)), part(0, 2, goes(2)), part(1, 1, comes(4)), part(1, 2, comes(1))}, true},
		{half, []api.Part{part(0, 1, comes(5)), part(1, 1, comes(4))}, []api.Part{part(0, 1, comes(5)), part(1, 0, comes(2)), part(1, 1, goes(3))}, []api.Part{part(0, 1, one(2, 10, runs(5, 2), nil)), part(1, 0, comes(2)), part(1, 1, one(0, 1, runs(4, 1), runs(3, 1)))}, true},
		{half, []api.Part{part(0, 1, comes(5)), part(1, 1, comes(4))}, []api.Part{part(0, 1, goes(5))}, []api.Part{part(1, 1, comes(4))}, true}, {half, []api.Part{part(0, 1, one(0, 2, runs(5, 1), runs(3, 1)))}, []api.Part{part(0, 1, one(0, -2, runs(3, 1), runs(5, 1)))}, nil, true}, {half, []api.Part{part(0, 1, one(0, 2, runs(5, 1), runs(3, 1)))}, []api.Part{part(0, 1, one(0, -1, runs(3, 1), runs(4, 1)))}, []api.Part{part(0, 1, one(0, 1, runs(5, 1), runs(4, 1)))}, true},
		{half, nil, nil, nil, true}, {api.Node{}, []api.Part{part(3, 2, comes(5))}, []api.Part{part(0, 0, goes(5))}, []api.Part{part(0, 0, goes(5)), part(3, 2, comes(5))}, true}, {api.Node{2, 1}, []api.Part{part(0, 0, comes(5))}, []api.Part{part(0, 0, comes(5))}, []api.Part{part(0, 0, one(2, 10, runs(5, 2), nil))}, true},
		{half, []api.Part{part(0, 1, comes(top))}, []api.Part{part(0, 1, comes(1))}, nil, false}, {half, []api.Part{part(0, 1, comes(top))}, []api.Part{part(0, 2, comes(1))}, []api.Part{part(0, 1, comes(top)), part(0, 2, comes(1))}, true}, {half, []api.Part{part(0, 1, comes(low))}, []api.Part{part(0, 1, goes(1))}, nil, false}, {half, []api.Part{part(0, 1, comes(low))}, []api.Part{part(0, 1, comes(top))}, []api.Part{part(0, 1, one(2, -1, runs(low, 1, top, 1), nil))}, true}, {half, []api.Part{part(0, 1, goes(top))}, []api.Part{part(0, 1, goes(1))}, []api.Part{part(0, 1, one(-2, low, nil, runs(1, 1, top, 1)))}, true}, {half, []api.Part{part(0, 1, goes(top))}, []api.Part{part(0, 1, goes(2))}, nil, false},
		{half, []api.Part{part(0, 1, one(most, 0, runs(0, most), nil))}, []api.Part{part(0, 1, comes(0))}, nil, false}, {half, []api.Part{part(0, 1, one(most, 0, runs(0, most), nil))}, []api.Part{part(0, 1, goes(0))}, []api.Part{part(0, 1, one(most-1, 0, runs(0, most-1), nil))}, true}, {half, []api.Part{part(0, 1, one(-most, 0, nil, runs(0, most)))}, []api.Part{part(0, 1, one(0, -1, runs(0, 1), runs(1, 1)))}, nil, false},
		{api.Node{3, 0}, nil, nil, nil, false}, {api.Node{1, 2}, nil, nil, nil, false}, {api.Node{1, 0, 1}, nil, nil, nil, false}, {api.Node{1, 0, 0, 1}, []api.Part{part(0, 1, comes(5))}, nil, nil, false}, {half, []api.Part{part(2, 0, comes(5))}, nil, nil, false}, {half, nil, []api.Part{part(0, 3, comes(5))}, nil, false},
	} {
		got, ok := Join(small(1), x.v, x.a, x.b)
		hold(t, got, ok, x.want, x.ok, "Join", x.v, x.a, x.b)
		got, ok = Join(small(1), x.v, x.b, x.a)
		hold(t, got, ok, x.want, x.ok, "Join", x.v, x.b, x.a)
	}
}

// P11.2: one place at which both can't be joined, the first, one in the midst, the last, and others at which they can.
func TestJoinAtTheEnds(t *testing.T) {
	for _, c := range samples.Goods() {
		deltas, fits, beyond := ends(c.Measures), 0, 0
		for i, v := range samples.Nodes(c) {
			places := few(samples.Places(c, v))
			a, b := laid(places, goods(c.Measures), i), laid(places, goods(c.Measures), i+1)
			for k, d := range deltas {
				for _, at := range []int{0, len(places) / 2, len(places) - 1} {
					other := slices.Clone(a)
					other[at].D = d
					with := slices.Clone(b)
					with[at].D = deltas[(k+i)%len(deltas)]
					if holdJoin(t, c, v, other, with) {
						fits++
					} else {
						beyond++
					}
				}
			}
		}
		if fits == 0 || beyond == 0 {
			t.Errorf("%v: %d can be joined, %d can't", c, fits, beyond)
		}
	}
}

// P11.2: a list on either side that is no spread of the node, beside one that is and beside nothing.
func TestJoinOfNoSpread(t *testing.T) {
	for _, c := range samples.Goods() {
		for _, v := range samples.Nodes(c) {
			places := samples.Places(c, v)
			if len(places) < 3 {
				continue
			}
			l := laid(places[:3], goods(c.Measures), 1)
			for _, bad := range noSpreads(c.Measures, l) {
				for _, x := range [][2][]api.Part{{bad, nil}, {nil, bad}, {bad, l}, {l, bad}, {bad, bad}} {
					if got, ok := Join(c, v, x[0], x[1]); len(got) != 0 || ok {
						t.Fatalf("Join(%v, %v, %v, %v): %v %v", c, v, x[0], x[1], got, ok)
					}
				}
			}
		}
	}
}

// P11.2: a node that is none of the catalog's, of nothing and of a part at a place that each node has.
func TestJoinOfNoNode(t *testing.T) {
	for _, c := range samples.Goods() {
		l := laid([]api.Coord{{}}, goods(c.Measures), 0)
		for _, v := range samples.Nodes(c) {
			for _, other := range append(samples.Spoilt(v), api.Node{255, 255, 255, 255}) {
				for _, x := range [][2][]api.Part{{nil, nil}, {l, nil}, {nil, l}, {l, l}} {
					if holdJoin(t, c, other, x[0], x[1]) != samples.IsNode(c, other) {
						t.Fatalf("Join(%v, %v, %v, %v)", c, other, x[0], x[1])
					}
				}
			}
		}
	}
}

// P11.1, P11.2: the spreads of two lists of changes, joined, are that of both lists; and so they are carried up.
func TestJoinOfChanges(t *testing.T) {
	for _, c := range samples.Goods() {
		l := changes(c, 90)
		a, isA := Of(c, l[:50])
		b, isB := Of(c, l[50:])
		all, is := Of(c, l)
		if !isA || !isB || !is {
			t.Fatalf("%v: no spread of %v", c, l)
		}
		for _, v := range samples.Nodes(c) {
			upA, _ := Up(c, api.Node{}, v, a)
			upB, _ := Up(c, api.Node{}, v, b)
			want, _ := Up(c, api.Node{}, v, all)
			got, ok := Join(c, v, upA, upB)
			hold(t, got, ok, want, true, "Join", c, v, l)
		}
	}
}
