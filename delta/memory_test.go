package delta

import (
	"slices"
	"testing"

	"cuboid/api"
	"cuboid/cell"
	"cuboid/room"
)

// wrong: a run that no test hands in.
var wrong = api.Run{V: -4711, N: -4711}

// marked: the bags in memory of their own, with marks in the room behind them.
func marked(l bags) bags {
	for i, b := range l {
		l[i] = room.Behind(b, wrong)
	}
	return l
}

// full: the bags and all that is in the room behind them, in memory of their own.
func full(l bags) bags {
	for i, b := range l {
		l[i] = slices.Clone(b[:cap(b)])
	}
	return l
}

// spoil writes over the bags and over the room behind them.
func spoil(l bags) {
	for _, b := range l {
		room.Fill(b, wrong)
	}
}

// alike: whether both are the same runs.
func alike(a, b bags) bool {
	return slices.Equal(a[0], b[0]) && slices.Equal(a[1], b[1])
}

// handed: two deltas and two places as they are handed in: memory of their own, with marks behind each bag.
type handed struct {
	a, b     api.Delta
	from, to place
}

// hold tells them so.
func hold(a, b api.Delta, from, to place) handed {
	a.In, a.Out, b.In, b.Out = marked(a.In), marked(a.Out), marked(b.In), marked(b.Out)
	from.c.Bags, to.c.Bags = marked(from.c.Bags), marked(to.c.Bags)
	return handed{a, b, from, to}
}

// lists: all bags of what is handed in.
func (h handed) lists() []bags {
	return []bags{h.a.In, h.a.Out, h.b.In, h.b.Out, h.from.c.Bags, h.to.c.Bags}
}

// seen: all that is handed in, and what is in the room behind it.
func (h handed) seen() []bags {
	l := h.lists()
	for i, b := range l {
		l[i] = full(b)
	}
	return l
}

// told: what calls tell in lists: the bags of a delta, In and then Out, or those of a cell twice.
type told func(m int, h handed) [2]bags

// calls: all that tell lists of what is handed in.
func calls() []told {
	return []told{
		func(m int, h handed) [2]bags {
			d, _ := Join(m, h.a, h.b)
			return [2]bags{d.In, d.Out}
		},
		func(m int, h handed) [2]bags {
			d, _ := Neg(m, h.a)
			return [2]bags{d.In, d.Out}
		},
		func(m int, h handed) [2]bags {
			d, _ := Between(m, h.from.c, h.from.is, h.to.c, h.to.is)
			return [2]bags{d.In, d.Out}
		},
		func(m int, h handed) [2]bags {
			c, _, _ := Apply(m, h.from.c, h.from.is, h.a)
			return [2]bags{c.Bags}
		},
		func(m int, h handed) [2]bags {
			c, _, _ := Apply(m, h.to.c, h.to.is, h.b)
			return [2]bags{c.Bags}
		},
	}
}

// someHanded: what may be and what may not be, of m measures, each with each other.
func someHanded(m int) []handed {
	var all []handed
	deltas, spots := slices.Concat(goods(m), bads(m)[:30]), slices.Concat(places(m), noPlaces(m)[:20])
	for i, a := range deltas {
		for j, b := range deltas {
			all = append(all, hold(a, b, spots[(i+3*j)%len(spots)], spots[(5*i+j)%len(spots)]))
		}
		for _, p := range spots {
			all = append(all, hold(a, a, p, spots[i%len(spots)]))
		}
	}
	return all
}

// A write into the room behind any of the lists is seen.
func TestSeenIsTheRoom(t *testing.T) {
	h := hold(deltaOf(1), deltaOf(2), at(pairs([2]int64{1, 2})), at(pairs([2]int64{3, 4})))
	for list := range h.lists() {
		for i := range api.MaxMeasures {
			before := h.seen()
			b := h.lists()[list][i]
			_ = append(b, api.Run{V: int64(list), N: int64(i)})
			if alike(h.seen()[list], before[list]) {
				t.Errorf("a write behind bag %d of list %d is not seen", i, list)
			}
		}
	}
}

// deltaOf: a delta of two measures with something in each bag.
func deltaOf(v int64) api.Delta {
	return two(one(0, 10, runs(v+10, 1), runs(v, 1)), one(0, 20, runs(v+20, 1), runs(v, 1)))
}

// Rule 2: what is asked leaves all that is handed in as it is, the room behind its bags too.
func TestLeavesWhatIsHandedIn(t *testing.T) {
	for _, m := range measures() {
		asks := calls()
		asks = append(asks, func(m int, h handed) [2]bags {
			Good(m, h.a)
			return [2]bags{}
		}, func(m int, h handed) [2]bags {
			Idle(m, h.a)
			return [2]bags{}
		}, func(m int, h handed) [2]bags {
			Same(h.a, h.b)
			return [2]bags{}
		})
		for _, h := range someHanded(m) {
			before := h.seen()
			// Looked at behind each call: a second one could turn back what the first one turned.
			for i, ask := range asks {
				for _, b := range ask(m, h) {
					spoil(b)
				}
				if !slices.EqualFunc(h.seen(), before, alike) {
					t.Fatalf("behind call %d, and a write over what it told, %v is now %v", i, before, h.seen())
				}
			}
		}
	}
}

// Rule 2: what is told is not changed with what was handed in, nor with another answer.
func TestToldIsNewMemory(t *testing.T) {
	for _, m := range measures() {
		for i, ask := range calls() {
			for _, h := range someHanded(m) {
				kept := ask(m, h)
				want := [2]bags{full(kept[0]), full(kept[1])}
				for _, b := range ask(m, h) {
					spoil(b)
				}
				for _, b := range h.lists() {
					spoil(b)
				}
				if !alike(full(kept[0]), want[0]) || !alike(full(kept[1]), want[1]) {
					t.Fatalf("call %d told %v, which is now %v", i, want, kept)
				}
			}
		}
	}
}

// holdApart: no two bags of one answer share memory, their spare room included.
func holdApart(t *testing.T, name string, ask func() [2]bags) {
	t.Helper()
	for side := range 2 {
		for i := range api.MaxMeasures {
			lists := ask()
			was := [2]bags{full(lists[0]), full(lists[1])}
			room.Fill(lists[side][i], wrong)
			was[side][i] = full(lists[side])[i]
			if !alike(full(lists[0]), was[0]) || !alike(full(lists[1]), was[1]) {
				t.Fatalf("%s: with bag %d of list %d %v has become %v", name, i, side, was, lists)
			}
		}
	}
}

// Rule 2: bags of one answer are apart, where both measures have the same values, and where In and Out, or all that is
// handed in, are of one piece of memory.
func TestBagsOfOneAnswer(t *testing.T) {
	piece := runs(1, 1, 2, 2, 5, 1, 6, 2, 7, 1)
	d := api.Delta{N: 0, Sum: [2]int64{12, 12}, In: bags{piece[2:4], piece[2:4]}, Out: bags{piece[:2], piece[:2]}}
	c := api.Cell{N: 3, Sum: [2]int64{5, 5}, Bags: bags{piece[:2], piece[:2]}}
	if !Good(2, d) || !cell.Good(2, c) {
		t.Fatalf("%v or %v may not be", d, c)
	}
	before := slices.Clone(piece)
	for i, ask := range calls() {
		for _, h := range []handed{{d, d, at(c), at(c)}, {d, d, at(c), gone}, {d, api.Delta{}, gone, at(c)}, {a: deltaOf(3), b: deltaOf(4), from: at(c), to: at(pairs([2]int64{1, 1}, [2]int64{8, 8}))}} {
			holdApart(t, "call "+string(rune('0'+i)), func() [2]bags { return ask(2, h) })
			if !slices.Equal(piece, before) {
				t.Fatalf("call %d: %v is now %v", i, before, piece)
			}
		}
	}
	for _, ch := range []api.Change{comes(4, 4), goes(4, 4), comes(1, 2), goes(2, 1)} {
		holdApart(t, "Of", func() [2]bags {
			d, _ := Of(2, ch)
			return [2]bags{d.In, d.Out}
		})
		one, _ := Of(2, ch)
		other, _ := Of(2, ch)
		spoil(other.In)
		spoil(other.Out)
		if want, _ := ofOf(2, ch); !sameOf(one, want) {
			t.Errorf("Of(2, %v) has become %v", ch, one)
		}
	}
}
