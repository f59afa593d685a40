package spread

import (
	"slices"
	"testing"

	"cuboid/api"
	"cuboid/samples"
)

// upOf: what the chapter says of Up, of a good c and an l that may be of from, if from is a node.
func upOf(c api.Catalog, from, to api.Node, l []api.Part) ([]api.Part, bool) {
	if !samples.IsNode(c, from) || !samples.IsNode(c, to) || !samples.IsBelow(from, to) {
		return nil, false
	}
	var parts []api.Part
	for _, p := range l {
		at, _ := samples.Carried(c, from, to, p.At)
		parts = append(parts, api.Part{At: at, D: p.D})
	}
	return spreadOf(c, to, parts)
}

func holdUp(t *testing.T, c api.Catalog, from, to api.Node, l []api.Part) bool {
	t.Helper()
	want, is := upOf(c, from, to, l)
	for range 2 {
		got, ok := Up(c, from, to, l)
		hold(t, got, ok, want, is, "Up", c, from, to, l)
	}
	return is
}

// few: at most some 12 of the places, the first one among them, and the last one.
func few(places []api.Coord) []api.Coord {
	l := each(places, len(places)/12+1)
	if end := places[len(places)-1]; l[len(l)-1] != end {
		l = append(l, end)
	}
	return l
}

// P11.2: each node to each node: to itself, to a coarser one, to a finer one, to one that is neither; nothing too.
func TestUp(t *testing.T) {
	for _, c := range samples.Goods() {
		for i, from := range samples.Nodes(c) {
			l := laid(few(samples.Places(c, from)), goods(c.Measures), i)
			for _, to := range samples.Nodes(c) {
				is := samples.IsBelow(from, to)
				if holdUp(t, c, from, to, l) != is || holdUp(t, c, from, to, nil) != is || holdUp(t, c, from, to, []api.Part{}) != is {
					t.Fatalf("%v: %v from %v to %v: not %v", c, l, from, to, is)
				}
			}
			got, ok := Up(c, from, from, l)
			hold(t, got, ok, l, true, "Up to itself", c, from, l)
		}
	}
}

// P11.2: all places of the base, carried to each node.
func TestUpOfAll(t *testing.T) {
	for _, c := range samples.Goods() {
		l := laid(samples.Places(c, api.Node{}), goods(c.Measures), len(c.Dims))
		for _, to := range samples.Nodes(c) {
			if !holdUp(t, c, api.Node{}, to, l) {
				t.Fatalf("%v: %v is not carried to %v", c, l, to)
			}
		}
	}
}

// P11.2: nodes that are none of the catalog's, on either side, with a spread of nothing too.
func TestUpOfNoNode(t *testing.T) {
	for _, c := range samples.Goods() {
		for _, v := range samples.Nodes(c) {
			l := laid(few(samples.Places(c, v)), goods(c.Measures), 0)
			for _, other := range append(samples.Spoilt(v), api.Node{255, 255, 255, 255}) {
				holdUp(t, c, v, other, l)
				holdUp(t, c, v, other, nil)
				holdUp(t, c, other, v, nil)
				holdUp(t, c, other, other, nil)
				if got, ok := Up(c, other, other, l[:1]); !samples.IsNode(c, other) && (len(got) != 0 || ok) {
					t.Fatalf("%v: Up from %v: %v %v", c, other, got, ok)
				}
			}
		}
	}
}

// noSpreads: lists that may not be a spread of the node, each for another cause; l may be, and has three parts at least.
func noSpreads(m int, l []api.Part) [][]api.Part {
	with := func(i int, p api.Part) []api.Part {
		other := slices.Clone(l)
		other[i] = p
		return other
	}
	all := [][]api.Part{with(0, l[1]), with(len(l)-1, l[0]), slices.Concat(l, l), slices.Concat(l, l[len(l)-1:]), slices.Insert(slices.Clone(l), 1, l[0])}
	for _, i := range []int{0, 1, len(l) - 1} {
		for _, d := range slices.Concat(bads(m), []api.Delta{nothing(), one(0, 0, []api.Run{}, []api.Run{})}) {
			all = append(all, with(i, api.Part{At: l[i].At, D: d}))
		}
		for dim := range api.MaxDims {
			at := l[i].At
			at[dim] = 40
			all = append(all, with(i, api.Part{At: at, D: l[i].D}))
		}
	}
	return all
}

// P11.2: a spread that may not be, carried to each node that there is.
func TestUpOfNoSpread(t *testing.T) {
	for _, c := range samples.Goods() {
		for _, from := range samples.Nodes(c) {
			places := samples.Places(c, from)
			if len(places) < 3 {
				continue
			}
			for _, l := range noSpreads(c.Measures, laid(places[:3], goods(c.Measures), 1)) {
				whole := samples.Nodes(c)[len(samples.Nodes(c))-1]
				for _, to := range []api.Node{from, whole} {
					if got, ok := Up(c, from, to, l); len(got) != 0 || ok {
						t.Fatalf("Up(%v, %v, %v, %v): %v %v", c, from, to, l, got, ok)
					}
				}
			}
		}
	}
}

// P11.2: some written out: what comes together and comes to nothing, or to what can't be, in the list's order.
func TestUpWrittenOut(t *testing.T) {
	base, half, whole := api.Node{}, api.Node{1, 0}, api.Node{2, 1}
	for _, x := range []struct {
		from, to api.Node
		l, want  []api.Part
		ok       bool
	}{
		{base, half, []api.Part{part(0, 1, comes(5)), part(1, 1, comes(3)), part(2, 1, comes(4))}, []api.Part{part(0, 1, one(2, 8, runs(3, 1, 5, 1), nil)), part(1, 1, comes(4))}, true}, {base, half, []api.Part{part(0, 1, comes(5)), part(1, 0, comes(3)), part(1, 1, comes(5))}, []api.Part{part(0, 0, comes(3)), part(0, 1, one(2, 10, runs(5, 2), nil))}, true}, {base, api.Node{0, 1}, []api.Part{part(0, 2, comes(5)), part(1, 0, comes(3)), part(1, 1, goes(2))}, []api.Part{part(0, 0, comes(5)), part(1, 0, one(0, 1, runs(3, 1), runs(2, 1)))}, true},
		{base, half, []api.Part{part(0, 1, comes(5)), part(1, 1, goes(5))}, nil, true}, {base, half, []api.Part{part(0, 1, comes(5)), part(1, 1, goes(5)), part(2, 1, comes(5)), part(3, 0, goes(5))}, []api.Part{part(1, 0, goes(5)), part(1, 1, comes(5))}, true}, {base, whole, []api.Part{part(0, 1, comes(5)), part(1, 1, goes(5)), part(2, 1, comes(5)), part(3, 0, goes(5))}, nil, true}, {half, whole, []api.Part{part(0, 1, one(0, 2, runs(5, 1), runs(3, 1))), part(1, 0, one(0, -2, runs(3, 1), runs(5, 1)))}, nil, true}, {base, whole, []api.Part{part(0, 0, comes(5)), part(0, 1, goes(5)), part(2, 2, comes(5))}, []api.Part{part(0, 0, comes(5))}, true},
		{base, half, []api.Part{part(0, 1, comes(top)), part(1, 1, comes(1))}, nil, false}, {base, half, []api.Part{part(0, 0, comes(4)), part(0, 1, comes(top)), part(1, 1, comes(1)), part(3, 1, comes(4))}, nil, false}, {base, half, []api.Part{part(0, 1, comes(top)), part(1, 2, comes(1)), part(2, 1, comes(1))}, []api.Part{part(0, 1, comes(top)), part(0, 2, comes(1)), part(1, 1, comes(1))}, true}, {base, half, []api.Part{part(0, 0, comes(4)), part(2, 2, comes(low)), part(3, 2, goes(1))}, nil, false},
		{base, whole, []api.Part{part(0, 1, comes(top)), part(1, 1, comes(1)), part(2, 0, goes(1))}, nil, false}, {base, whole, []api.Part{part(0, 1, comes(top)), part(1, 1, goes(1)), part(2, 0, comes(1))}, []api.Part{part(0, 0, comes(top))}, true}, {base, whole, []api.Part{part(0, 1, goes(1)), part(1, 1, comes(top)), part(2, 0, comes(1))}, []api.Part{part(0, 0, comes(top))}, true}, {base, whole, []api.Part{part(0, 1, comes(1)), part(1, 1, comes(top)), part(2, 0, goes(1))}, nil, false}, {base, whole, []api.Part{part(0, 1, comes(low)), part(1, 1, comes(top)), part(2, 0, comes(top))}, []api.Part{part(0, 0, one(3, top-1, runs(low, 1, top, 2), nil))}, true}, {base, whole, []api.Part{part(0, 1, comes(top)), part(1, 1, comes(top)), part(2, 0, comes(low))}, nil, false},
		{base, half, []api.Part{part(0, 1, one(most, 0, runs(0, most), nil)), part(1, 1, comes(0))}, nil, false}, {base, half, []api.Part{part(0, 1, one(most-1, 0, runs(0, most-1), nil)), part(1, 1, comes(0))}, []api.Part{part(0, 1, one(most, 0, runs(0, most), nil))}, true}, {base, half, []api.Part{part(0, 1, one(most, 0, runs(0, most), nil)), part(1, 1, one(0, 1, runs(1, 1), runs(0, 1)))}, nil, false}, {base, half, []api.Part{part(0, 1, one(-most, 0, nil, runs(0, most))), part(1, 1, goes(1)), part(2, 1, comes(1))}, nil, false}, {base, half, []api.Part{part(0, 1, one(most, 0, runs(0, most), nil)), part(1, 1, one(-most, 0, nil, runs(0, most))), part(2, 1, comes(1))}, []api.Part{part(1, 1, comes(1))}, true},
		{base, base, []api.Part{part(0, 1, comes(top)), part(1, 1, comes(1))}, []api.Part{part(0, 1, comes(top)), part(1, 1, comes(1))}, true}, {half, base, []api.Part{part(0, 1, comes(5))}, nil, false}, {half, api.Node{0, 1}, []api.Part{part(0, 1, comes(5))}, nil, false}, {base, api.Node{3, 1}, []api.Part{part(0, 1, comes(5))}, nil, false}, {base, api.Node{2, 2}, []api.Part{part(0, 1, comes(5))}, nil, false}, {base, api.Node{2, 1, 1}, []api.Part{part(0, 1, comes(5))}, nil, false}, {half, whole, []api.Part{part(2, 1, comes(5))}, nil, false},
	} {
		got, ok := Up(small(1), x.from, x.to, x.l)
		hold(t, got, ok, x.want, x.ok, "Up", x.from, x.to, x.l)
	}
}

// P11.2: sums and counts at both ends, the deltas by turns: some can be joined in the list's order, some can't.
func TestUpAtTheEnds(t *testing.T) {
	fits, beyond := 0, 0
	for _, c := range samples.Goods() {
		deltas := slices.Concat(ends(c.Measures), goods(c.Measures)[:3])
		for i, from := range samples.Nodes(c) {
			for n := 1; n <= 4; n++ {
				places := few(samples.Places(c, from))
				l := laid(places[:min(n, len(places))], deltas, i*3+n)
				for _, to := range samples.Nodes(c) {
					if !samples.IsBelow(from, to) {
						continue
					}
					if holdUp(t, c, from, to, l) {
						fits++
					} else {
						beyond++
					}
				}
			}
		}
	}
	if fits < 1000 || beyond < 1000 {
		t.Errorf("%d can be carried, %d can't", fits, beyond)
	}
}

// P11.2: of a catalog that may not be nothing is carried, nor joined.
func TestUpAndJoinOfBads(t *testing.T) {
	for i, c := range samples.Bads() {
		for _, l := range [][]api.Part{nil, {}, {part(0, 0, comes(5))}, {part(0, 0, two(comes(5), comes(4)))}} {
			for _, v := range []api.Node{{}, {1}, {1, 1, 1, 1}, {255, 255, 255, 255}} {
				if got, ok := Up(c, v, v, l); len(got) != 0 || ok {
					t.Errorf("bad %d: Up(%v, %v): %v %v", i, v, l, got, ok)
				}
				if got, ok := Up(c, api.Node{}, v, l); len(got) != 0 || ok {
					t.Errorf("bad %d: Up to %v of %v: %v %v", i, v, l, got, ok)
				}
				if got, ok := Join(c, v, l, nil); len(got) != 0 || ok {
					t.Errorf("bad %d: Join(%v, %v): %v %v", i, v, l, got, ok)
				}
				if got, ok := Join(c, v, nil, l); len(got) != 0 || ok {
					t.Errorf("bad %d: Join of %v, nothing and %v: %v %v", i, v, l, got, ok)
				}
			}
		}
	}
}

// P11.3: all nodes one above the other: carried by the one between, and at once.
func TestTwiceIsOnce(t *testing.T) {
	for _, c := range samples.Goods() {
		for i, from := range samples.Nodes(c) {
			l := laid(few(samples.Places(c, from)), goods(c.Measures), i)
			for _, mid := range samples.Nodes(c) {
				half, is := Up(c, from, mid, l)
				if is != samples.IsBelow(from, mid) {
					t.Fatalf("Up(%v, %v, %v, %v): %v %v", c, from, mid, l, half, is)
				}
				for _, to := range samples.Nodes(c) {
					if is && samples.IsBelow(mid, to) {
						want, _ := Up(c, from, to, l)
						got, ok := Up(c, mid, to, half)
						hold(t, got, ok, want, true, "Up by", c, from, mid, to, l)
					}
				}
			}
		}
	}
}

// P11.3: at both ends of 64 bits and of MaxCount a joining between may be beyond them on one of the two ways alone: where
// both tell a spread, it is the same.
func TestTwiceIsOnceAtTheEnds(t *testing.T) {
	both := 0
	for _, c := range samples.Goods() {
		deltas := slices.Concat(ends(c.Measures), goods(c.Measures)[:3])
		for i, mid := range samples.Nodes(c) {
			l := laid(few(samples.Places(c, api.Node{})), deltas, i)
			l = l[:min(len(l), 2+i%3)]
			half, is := Up(c, api.Node{}, mid, l)
			for _, to := range samples.Nodes(c) {
				want, once := Up(c, api.Node{}, to, l)
				got, twice := Up(c, mid, to, half)
				if is && once && twice {
					hold(t, got, twice, want, once, "Up by", c, mid, to, l)
					both++
				}
			}
		}
	}
	if both < 100 {
		t.Errorf("only %d were carried both ways", both)
	}
}

// P11.3: what changes come to is carried up as they are, from each node to each above it: no row is lost, and none counts
// twice.
func TestUpOfChanges(t *testing.T) {
	for _, c := range samples.Goods() {
		l := changes(c, 40)
		base, ok := Of(c, l)
		if !ok {
			t.Fatalf("%v: no spread of %v", c, l)
		}
		for _, to := range samples.Nodes(c) {
			var parts []api.Part
			for _, ch := range l {
				d, _ := deltaOf(c.Measures, ch)
				at, _ := samples.Carried(c, api.Node{}, to, ch.Row.At)
				parts = append(parts, api.Part{At: at, D: d})
			}
			want, is := spreadOf(c, to, parts)
			got, ok := Up(c, api.Node{}, to, base)
			hold(t, got, ok, want, is, "Up", c, to, l)
		}
	}
}
