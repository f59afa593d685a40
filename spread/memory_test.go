package spread

import (
	"slices"
	"testing"

	"cuboid/api"
	"cuboid/room"
	"cuboid/samples"
	"cuboid/schema"
)

// wrong: a run that no test hands in.
var wrong = api.Run{V: -4711, N: -4711}

// mark: a part that no test hands in.
func mark() api.Part {
	return api.Part{At: api.Coord{99, 99, 99, 99}, D: api.Delta{N: -4711, Sum: [api.MaxMeasures]int64{-4711, -4711}}}
}

// remade: the parts in memory of their own, each bag as remake tells it.
func remade(l []api.Part, remake func(b []api.Run) []api.Run) []api.Part {
	l = slices.Clone(l)
	for i, p := range l {
		for m := range p.D.In {
			l[i].D.In[m], l[i].D.Out[m] = remake(p.D.In[m]), remake(p.D.Out[m])
		}
	}
	return l
}

// copied: the parts in memory of their own.
func copied(l []api.Part) []api.Part {
	return remade(l, slices.Clone[[]api.Run])
}

// full: the parts, and all that is in the room behind them and behind their bags, in memory of their own.
func full(l []api.Part) []api.Part {
	return remade(l[:cap(l)], func(b []api.Run) []api.Run { return slices.Clone(b[:cap(b)]) })
}

// marked: the parts in memory of their own, with marks in the room behind them and behind their bags.
func marked(l []api.Part) []api.Part {
	return room.Behind(remade(l, func(b []api.Run) []api.Run { return room.Behind(b, wrong) }), mark())
}

// bagsOf: all bags of the parts.
func bagsOf(l []api.Part) [][]api.Run {
	var all [][]api.Run
	for _, p := range l {
		all = append(all, p.D.In[0], p.D.In[1], p.D.Out[0], p.D.Out[1])
	}
	return all
}

// spoil writes over the parts, their bags, and the room behind them.
func spoil(l []api.Part) {
	for _, b := range bagsOf(l[:cap(l)]) {
		room.Fill(b, wrong)
	}
	room.Fill(l, mark())
}

// handed: what calls are handed, in memory of its own, with marks behind each list.
type handed struct {
	c    api.Catalog
	v    api.Node
	l    []api.Change
	a, b []api.Part
}

func hand(c api.Catalog, v api.Node, l []api.Change, a, b []api.Part) handed {
	none := api.Change{Del: true, Row: api.Row{At: api.Coord{99, 99, 99, 99}, M: [api.MaxMeasures]int64{-4711, -4711}}}
	return handed{room.Catalog(c), v, room.Behind(l, none), marked(a), marked(b)}
}

// seen: all of it, and what is in the room behind it, in memory of its own.
func (h handed) seen() handed {
	return handed{room.Full(h.c), h.v, slices.Clone(h.l[:cap(h.l)]), full(h.a), full(h.b)}
}

// like: whether both are alike.
func (h handed) like(other handed) bool {
	return schema.Same(h.c, other.c) && slices.Equal(h.l, other.l) && sameOf(h.a, other.a) && sameOf(h.b, other.b)
}

// calls: all that tell lists.
func calls() []func(h handed) []api.Part {
	return []func(h handed) []api.Part{
		func(h handed) []api.Part {
			got, _ := Of(h.c, h.l)
			return got
		},
		func(h handed) []api.Part {
			got, _ := Up(h.c, h.v, h.v, h.a)
			return got
		},
		func(h handed) []api.Part {
			whole := api.Node{}
			for dim := range h.c.Dims[:min(len(h.c.Dims), api.MaxDims)] {
				whole[dim] = uint8(len(h.c.Dims[dim].Sizes))
			}
			got, _ := Up(h.c, h.v, whole, h.a)
			return got
		},
		func(h handed) []api.Part {
			got, _ := Join(h.c, h.v, h.a, h.b)
			return got
		},
		func(h handed) []api.Part {
			got, _ := Join(h.c, h.v, h.b, nil)
			return got
		},
	}
}

// someHanded: lists that may be, and such as may not be, of each catalog.
func someHanded() []handed {
	var all []handed
	for i, c := range samples.Goods() {
		l := changes(c, 12)
		for k, v := range samples.Nodes(c) {
			places := few(samples.Places(c, v))
			a, b := laid(places, goods(c.Measures), i+k), laid(each(places, 2), goods(c.Measures), k)
			all = append(all, hand(c, v, l[:k%len(l)], a, b), hand(c, v, l[k%len(l):], b, a), hand(c, v, nil, nil, a))
			all = append(all, hand(c, v, append(slices.Clone(l), api.Change{Row: api.Row{At: api.Coord{40}}}), a, slices.Concat(b, b)))
			all = append(all, hand(c, v, l, laid(places, ends(c.Measures), k), laid(places, ends(c.Measures), k+1)), hand(c, v, l, laid(places, bads(c.Measures), k), b))
		}
	}
	for _, c := range samples.Bads() {
		all = append(all, hand(c, api.Node{}, []api.Change{come(0, 0, 5)}, []api.Part{part(0, 0, comes(5))}, nil))
	}
	return all
}

// A write into any of the lists, or into the room behind it, is seen.
func TestSeenIsAll(t *testing.T) {
	for i, write := range []func(h handed){
		func(h handed) { _ = append(h.l, api.Change{}) },
		func(h handed) { _ = append(h.a, api.Part{}) },
		func(h handed) { _ = append(h.b, api.Part{}) },
		func(h handed) { h.a[0].D.N++ },
		func(h handed) { h.b[0].At[3]++ },
		func(h handed) { h.a[0].D.Sum[1]++ },
		func(h handed) { _ = append(h.a[0].D.In[0], api.Run{}) },
		func(h handed) { _ = append(h.b[0].D.In[1], api.Run{}) },
		func(h handed) { _ = append(h.a[0].D.Out[1], api.Run{}) },
		func(h handed) { h.b[0].D.Out[0][0].N++ },
		func(h handed) { h.l[0].Row.M[0]++ },
		func(h handed) { _ = append(h.c.Dims[0].Sizes, 5) },
	} {
		d := two(one(0, 2, runs(5, 1), runs(3, 1)), one(0, 1, runs(4, 1), runs(3, 1)))
		h := hand(small(2), api.Node{}, []api.Change{come(0, 0, 5)}, []api.Part{part(0, 0, d)}, []api.Part{part(0, 0, d)})
		before := h.seen()
		write(h)
		if h.seen().like(before) {
			t.Errorf("write %d is not seen", i)
		}
	}
}

// Rule 2: what is asked leaves all that is handed in as it is, the room behind it too, whatever becomes of what is told.
func TestLeavesWhatIsHandedIn(t *testing.T) {
	asks := append(calls(), func(h handed) []api.Part {
		Good(h.c, h.v, h.a)
		return nil
	}, func(h handed) []api.Part {
		Same(h.a, h.b)
		return nil
	})
	for _, h := range someHanded() {
		before := h.seen()
		// Looked at behind each call: a second one could turn back what the first one turned.
		for i, ask := range asks {
			spoil(ask(h))
			if !h.seen().like(before) {
				t.Fatalf("behind call %d, and a write over what it told, %v is now %v", i, before, h.seen())
			}
		}
	}
}

// Rule 2: what is told is not changed with what was handed in, nor with another answer.
func TestToldIsNewMemory(t *testing.T) {
	for i, ask := range calls() {
		lists := 0
		for _, h := range someHanded() {
			kept := ask(h)
			want := full(kept)
			spoil(ask(h))
			for _, b := range [][]api.Part{h.a, h.b} {
				spoil(b)
			}
			room.Fill(h.l, api.Change{})
			if !sameOf(full(kept), want) {
				t.Fatalf("call %d told %v, which is now %v", i, want, full(kept))
			}
			lists += min(len(kept), 1)
		}
		if lists < 100 {
			t.Errorf("call %d told only %d lists", i, lists)
		}
	}
}

// Rule 2: no two bags of one answer share memory, where all that is handed in has the same values in one piece of memory.
func TestBagsOfOneAnswer(t *testing.T) {
	c := small(2)
	piece := runs(1, 1, 2, 2, 5, 1, 6, 2, 7, 1)
	d := api.Delta{Sum: [api.MaxMeasures]int64{12, 12}, In: [api.MaxMeasures][]api.Run{piece[2:4], piece[2:4]}, Out: [api.MaxMeasures][]api.Run{piece[:2], piece[:2]}}
	before := slices.Clone(piece)
	var l []api.Part
	for _, at := range samples.Places(c, api.Node{}) {
		l = append(l, api.Part{At: at, D: d})
	}
	changes := []api.Change{come(0, 0, 5, 5), gone(0, 0, 4, 4), come(0, 1, 5, 5), gone(0, 1, 4, 4), come(3, 2, 5, 5)}
	if !Good(c, api.Node{}, l) {
		t.Fatalf("%v may not be", l)
	}
	for i, ask := range calls() {
		for _, h := range []handed{{c, api.Node{}, changes, l, l}, {c, api.Node{}, changes, l, nil}, {c, api.Node{}, changes[:1], nil, l}, {c, api.Node{}, changes, l[:2], l[1:]}} {
			for k := range bagsOf(ask(h)) {
				told := ask(h)
				was := bagsOf(full(told))
				room.Fill(bagsOf(told)[k], wrong)
				was[k] = slices.Repeat([]api.Run{wrong}, len(was[k]))
				if !slices.EqualFunc(bagsOf(full(told)[:len(told)]), was[:4*len(told)], slices.Equal[[]api.Run]) {
					t.Fatalf("call %d: with bag %d %v has become %v", i, k, was, told)
				}
			}
			if !slices.Equal(piece, before) {
				t.Fatalf("call %d: %v is now %v", i, before, piece)
			}
		}
	}
}
