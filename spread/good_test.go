package spread

import (
	"math"
	"slices"
	"testing"

	"cuboid/api"
	"cuboid/delta"
	"cuboid/samples"
)

// The samples are what they are called, by delta's word.
func TestSamples(t *testing.T) {
	for m := 1; m <= api.MaxMeasures; m++ {
		for _, d := range slices.Concat(goods(m), ends(m)) {
			if !delta.Good(m, d) || delta.Idle(m, d) {
				t.Errorf("%v may not be, of %d measures, or is idle", d, m)
			}
		}
		for _, d := range bads(m) {
			if delta.Good(m, d) {
				t.Errorf("%v may be, of %d measures", d, m)
			}
		}
	}
}

// P11.1: of each node, the base and the whole among them: nothing, each of its places alone, all of them.
func TestGood(t *testing.T) {
	for _, c := range samples.Goods() {
		deltas := slices.Concat(goods(c.Measures), ends(c.Measures))
		for _, v := range samples.Nodes(c) {
			places := samples.Places(c, v)
			if !Good(c, v, nil) || !Good(c, v, []api.Part{}) {
				t.Fatalf("%v: nothing may not be, of %v", c, v)
			}
			for from := range deltas {
				if l := laid(places, deltas, from); !Good(c, v, l) {
					t.Fatalf("%v: %v may not be, of %v", c, l, v)
				}
				if l := laid(places[from%len(places):], deltas, from)[:1]; !Good(c, v, l) {
					t.Fatalf("%v: %v may not be, of %v", c, l, v)
				}
			}
		}
	}
}

// P11.1: of a node that is none of the catalog's there is no spread, not that of nothing either.
func TestGoodOfNoNode(t *testing.T) {
	for _, c := range samples.Goods() {
		for _, v := range samples.Nodes(c) {
			l := laid([]api.Coord{{}}, goods(c.Measures), 0)
			for _, other := range append(samples.Spoilt(v), api.Node{255, 255, 255, 255}) {
				want := samples.IsNode(c, other)
				if Good(c, other, nil) != want || Good(c, other, []api.Part{}) != want || Good(c, other, l) != want {
					t.Fatalf("%v: a spread of %v: not %v", c, other, want)
				}
			}
		}
	}
}

// P11.1: a place that is none of the node's, alone and among others, at each of its four numbers.
func TestGoodOfNoPlace(t *testing.T) {
	for _, c := range samples.Goods() {
		for _, v := range samples.Nodes(c) {
			places := samples.Places(c, v)
			end := places[len(places)-1]
			before := laid(places[:len(places)-1], goods(c.Measures), 0)
			for _, at := range samples.Spoilt(end) {
				l := []api.Part{{At: at, D: goods(c.Measures)[0]}}
				if want := samples.IsPlace(c, v, at); Good(c, v, l) != want {
					t.Fatalf("%v: %v of %v: not %v", c, l, v, want)
				}
				// Each number of Spoilt but those that go round is above end's: the list rises.
				l = slices.Concat(before, l)
				if want := samples.IsPlace(c, v, at) && rises(l); Good(c, v, l) != want {
					t.Fatalf("%v: %v of %v: not %v", c, l, v, want)
				}
			}
		}
	}
}

// P11.1: a place of one node is none of another one's.
func TestGoodOfOtherNodes(t *testing.T) {
	for _, c := range samples.Goods() {
		for _, v := range samples.Nodes(c) {
			l := laid(samples.Places(c, v), goods(c.Measures), 0)
			for _, other := range samples.Nodes(c) {
				want := !slices.ContainsFunc(l, func(p api.Part) bool { return !samples.IsPlace(c, other, p.At) })
				if Good(c, other, l) != want {
					t.Fatalf("%v: %v of %v: not %v", c, l, other, want)
				}
			}
		}
	}
}

// P11.1: two that stand in each other's place, and one that stands there twice, anywhere.
func TestGoodOfNoRise(t *testing.T) {
	for _, c := range samples.Goods() {
		for _, v := range samples.Nodes(c) {
			l := laid(samples.Places(c, v), goods(c.Measures), 0)
			for i := range min(len(l), 50) {
				twice := slices.Insert(slices.Clone(l), i, l[i])
				if Good(c, v, twice) {
					t.Fatalf("%v: %v may be, of %v", c, twice, v)
				}
				for _, j := range []int{i + 1, i + 2, len(l) - 1} {
					if j <= i || j >= len(l) {
						continue
					}
					turned := slices.Clone(l)
					turned[i], turned[j] = turned[j], turned[i]
					if Good(c, v, turned) {
						t.Fatalf("%v: %v may be, of %v", c, turned, v)
					}
				}
			}
		}
	}
}

// P11.1: by code.Key the first number comes first; some written out.
func TestGoodWrittenOut(t *testing.T) {
	d, c := comes(5), small(1)
	wide := samples.Catalog(1, samples.Dim(samples.InTurn, 3), samples.Dim(samples.InTurn, 3), samples.Dim(samples.InTurn, 3), samples.Dim(samples.InTurn, 3))
	for _, x := range []struct {
		c    api.Catalog
		v    api.Node
		l    []api.Part
		want bool
	}{
		{c, api.Node{}, []api.Part{part(0, 2, d), part(1, 0, d)}, true}, {c, api.Node{}, []api.Part{part(1, 0, d), part(0, 2, d)}, false}, {c, api.Node{}, []api.Part{part(0, 1, d), part(0, 0, d)}, false}, {c, api.Node{}, []api.Part{part(0, 1, d), part(0, 1, goes(5))}, false}, {c, api.Node{}, []api.Part{part(0, 0, d), part(2, 2, d), part(2, 2, d), part(3, 0, d)}, false},
		{c, api.Node{1, 1}, []api.Part{part(0, 0, d), part(1, 0, d)}, true}, {c, api.Node{2, 1}, []api.Part{part(0, 0, d)}, true}, {c, api.Node{2, 1}, []api.Part{part(1, 0, d)}, false}, {c, api.Node{1, 0}, []api.Part{part(2, 0, d)}, false}, {c, api.Node{0, 1}, []api.Part{part(2, 1, d)}, false},
		{c, api.Node{3, 0}, nil, false}, {c, api.Node{0, 2}, nil, false}, {c, api.Node{0, 0, 1}, nil, false}, {c, api.Node{0, 0, 0, 1}, nil, false}, {c, api.Node{3, 0}, []api.Part{part(0, 0, d)}, false},
		{wide, api.Node{}, []api.Part{{At: api.Coord{0, 0, 0, 2}, D: d}, {At: api.Coord{0, 0, 1, 1}, D: d}, {At: api.Coord{0, 1, 0, 0}, D: d}, {At: api.Coord{1, 0, 0, 0}, D: d}}, true}, {wide, api.Node{}, []api.Part{{At: api.Coord{0, 0, 1, 0}, D: d}, {At: api.Coord{0, 0, 0, 2}, D: d}}, false}, {wide, api.Node{}, []api.Part{{At: api.Coord{0, 1, 0, 0}, D: d}, {At: api.Coord{0, 0, 2, 2}, D: d}}, false},
	} {
		if got := Good(x.c, x.v, x.l); got != x.want {
			t.Errorf("Good(%v, %v, %v): %v", x.c, x.v, x.l, got)
		}
	}
}

// P11.1: a delta that may not be, of the catalog's measures, or that is idle: the first, one in the midst, the last.
func TestGoodOfNoDelta(t *testing.T) {
	for _, c := range samples.Goods() {
		empty := one(0, 0, []api.Run{}, []api.Run{})
		for _, v := range samples.Nodes(c) {
			l := laid(samples.Places(c, v), goods(c.Measures), 1)
			for _, d := range slices.Concat(bads(c.Measures), []api.Delta{nothing(), empty}) {
				for _, i := range []int{0, len(l) / 2, len(l) - 1} {
					was := l[i].D
					l[i].D = d
					if Good(c, v, l) || Good(c, v, l[i:i+1]) {
						t.Fatalf("%v: %v may be, of %v", c, l, v)
					}
					l[i].D = was
				}
			}
		}
	}
}

// P11.1: of a catalog that may not be there is no spread, not that of nothing either.
func TestGoodOfBads(t *testing.T) {
	for i, c := range samples.Bads() {
		for _, v := range []api.Node{{}, {1}, {1, 1}, {0, 0, 0, 1}, {2, 2, 2, 2}, {255, 255, 255, 255}} {
			if Good(c, v, nil) || Good(c, v, []api.Part{}) || Good(c, v, []api.Part{part(0, 0, comes(5))}) || Good(c, v, []api.Part{part(0, 0, two(comes(5), comes(4)))}) {
				t.Errorf("bad %d: a spread of %v", i, v)
			}
		}
	}
}

// spoilt: the delta with one thing of it another one, each at a time.
func spoilt(d api.Delta) []api.Delta {
	var all []api.Delta
	turn := func(change func(d *api.Delta)) {
		other := d
		change(&other)
		all = append(all, other)
	}
	for _, by := range []int64{1, -1, math.MinInt64, 1 << 32} {
		turn(func(d *api.Delta) { d.N += by })
		for m := range d.Sum {
			turn(func(d *api.Delta) { d.Sum[m] += by })
		}
	}
	for m := range d.In {
		for _, more := range [][]api.Run{runs(9, 1), runs(0, 0), runs(low, low)} {
			turn(func(d *api.Delta) { d.In[m] = slices.Concat(d.In[m], more) })
			turn(func(d *api.Delta) { d.Out[m] = slices.Concat(more, d.Out[m]) })
		}
	}
	turn(func(d *api.Delta) { d.In, d.Out = d.Out, d.In })
	turn(func(d *api.Delta) { d.In[0], d.In[1] = d.In[1], d.In[0] })
	turn(func(d *api.Delta) { d.Out[0], d.Out[1] = d.Out[1], d.Out[0] })
	return all
}

// lists: spreads, and lists of parts that are none.
func lists() [][]api.Part {
	d := two(one(1, 7, runs(-2, 1, 5, 2), runs(-3, 1, 4, 1)), one(1, 0, runs(6, 1, 9, 1), runs(15, 1)))
	e := two(one(-2, -9, nil, runs(4, 1, 5, 1)), one(-2, -3, runs(0, 1), runs(1, 3)))
	l := []api.Part{part(0, 1, d), part(1, 0, e), part(1, 2, comes(5)), part(3, 1, goes(low+1))}
	backwards := slices.Clone(l)
	slices.Reverse(backwards)
	return [][]api.Part{l, l[:1], l[1:], backwards, {l[0], l[0]}, {l[0], l[0], l[0]}, {part(0, 0, nothing())}, {part(0, 0, nothing()), part(0, 1, nothing())}, {{At: api.Coord{255, 254, 253, 252}, D: bads(1)[4]}, part(0, 0, bads(2)[5])}}
}

// P11.1: alike are those of the same length, places and deltas, in the same order, whether they may be or not.
func TestSame(t *testing.T) {
	for _, l := range lists() {
		if !Same(l, copied(l)) {
			t.Errorf("%v is not the same as itself", l)
		}
		for i, p := range l {
			for _, at := range samples.Spoilt(p.At) {
				apart(t, l, i, api.Part{At: at, D: p.D})
			}
			for _, d := range spoilt(p.D) {
				apart(t, l, i, api.Part{At: p.At, D: d})
			}
		}
	}
	if !Same(nil, nil) || !Same(nil, []api.Part{}) || !Same([]api.Part{}, nil) {
		t.Error("nothing is not the same as nothing")
	}
}

// apart asks whether Same tells what there is to tell of l and of l with another part in that place.
func apart(t *testing.T, l []api.Part, i int, p api.Part) {
	t.Helper()
	other := copied(l)
	other[i] = p
	if want := sameOf(l, other); Same(l, other) != want || Same(other, l) != want {
		t.Errorf("Same(%v, %v) is not %v", l, other, want)
	}
}

// P11.1: another length, whatever the parts that are there more, and another order.
func TestSameOfOtherLists(t *testing.T) {
	for _, l := range lists() {
		for n := range l {
			if Same(l, l[:n]) || Same(l[:n], l) {
				t.Errorf("%v is the same as its first %d", l, n)
			}
		}
		for _, more := range []api.Part{{}, l[0], l[len(l)-1], part(3, 2, nothing())} {
			for _, longer := range [][]api.Part{append(copied(l), more), slices.Insert(copied(l), 0, more)} {
				if Same(l, longer) || Same(longer, l) {
					t.Errorf("%v is the same as %v", l, longer)
				}
			}
		}
		backwards := copied(l)
		slices.Reverse(backwards)
		if want := sameOf(l, backwards); Same(l, backwards) != want || Same(backwards, l) != want {
			t.Errorf("Same(%v, %v) is not %v", l, backwards, want)
		}
	}
	nils, empties := []api.Part{part(1, 1, comes(4))}, []api.Part{part(1, 1, two(one(1, 4, runs(4, 1), []api.Run{}), one(0, 0, []api.Run{}, []api.Run{})))}
	if !Same(nils, empties) || !Same(empties, nils) {
		t.Error("nil and empty bags are not the same")
	}
}
