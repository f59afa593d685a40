package cell

import (
	"slices"
	"testing"

	"cuboid/api"
	"cuboid/room"
)

// wrong: a run that no test hands in.
var wrong = api.Run{V: -4711, N: -4711}

// strange: a row that no test hands in.
var strange = api.Row{At: api.Coord{99, 99, 99, 99}, M: [api.MaxMeasures]int64{-4711, -4711}}

// marked: c in memory of its own, with marks in the room behind its bags.
func marked(c api.Cell) api.Cell {
	for i, b := range c.Bags {
		c.Bags[i] = room.Behind(b, wrong)
	}
	return c
}

// full: c and all that is in the room behind its bags, in memory of its own.
func full(c api.Cell) api.Cell {
	for i, b := range c.Bags {
		c.Bags[i] = slices.Clone(b[:cap(b)])
	}
	return c
}

// spoil writes over c's bags and over the room behind them.
func spoil(c api.Cell) {
	for _, b := range c.Bags {
		room.Fill(b, wrong)
	}
}

// handed: cells that may be and such that may not be.
func handed(m int) []api.Cell {
	return slices.Concat(goods(m), bads(m)[:40])
}

// A write into a bag's room is seen by full.
func TestFullSeesTheRoom(t *testing.T) {
	for i := range api.MaxMeasures {
		c := marked(two(1, 4, 5, runs(4, 1), runs(5, 1)))
		before := full(c)
		_ = append(c.Bags[i], api.Run{})
		if sameOf(full(c), before) {
			t.Errorf("a write behind bag %d is not seen", i)
		}
	}
}

// Rule 2: what is asked of one cell leaves it as it is, the room behind its bags too.
func TestLeavesItsCell(t *testing.T) {
	for _, m := range measures() {
		for _, was := range handed(m) {
			c := marked(was)
			before := full(c)
			// Looked at behind each call: a second one could turn back what the first one turned.
			for i, ask := range []func(){
				func() { Good(m, c) }, func() { Same(c, c) }, func() { Line(m, api.Coord{1}, c) }, func() { Join(m, c, c) },
			} {
				ask()
				if !sameOf(full(c), before) {
					t.Fatalf("behind call %d %v is now %v", i, before, full(c))
				}
			}
		}
	}
}

// Rule 2: Join leaves both as they are, whatever becomes of what is told; and what is told is not changed with them, nor
// with another answer.
func TestJoinLeavesBoth(t *testing.T) {
	for _, m := range measures() {
		for _, x := range handed(m) {
			for _, y := range handed(m) {
				a, b := marked(x), marked(y)
				first, second := full(a), full(b)
				var kept api.Cell
				for range 2 {
					spoil(kept)
					kept, _ = Join(m, a, b)
					if !sameOf(full(a), first) || !sameOf(full(b), second) {
						t.Fatalf("%v and %v are now %v and %v", first, second, full(a), full(b))
					}
				}
				other, _ := Join(m, a, b)
				spoil(other)
				spoil(a)
				spoil(b)
				if want, _ := joinOf(m, x, y); !sameOf(kept, want) {
					t.Fatalf("of %v and %v %v was told, which is now %v", x, y, want, kept)
				}
			}
		}
	}
}

// Rule 2: the rows that are handed to Of whole stay as they are, their spare room too, and no two answers share memory.
func TestOfLeavesItsRows(t *testing.T) {
	all := some()
	backwards := slices.Clone(all)
	slices.Reverse(backwards)
	for _, was := range [][]api.Row{nil, {}, all[5:6], firsts(3, 1, 3), backwards, all, firsts(top, top, low)} {
		for _, m := range append(measures(), 0, 3) {
			l := room.Behind(was, strange)
			before := slices.Clone(l[:cap(l)])
			var kept api.Cell
			for range 2 {
				spoil(kept)
				kept, _ = Of(m, l...)
				if !slices.Equal(l[:cap(l)], before) {
					t.Fatalf("%v is now %v", before, l[:cap(l)])
				}
			}
			other, _ := Of(m, l...)
			spoil(other)
			room.Fill(l, strange)
			if want, _ := ofOf(m, was); !sameOf(kept, want) {
				t.Fatalf("Of(%d, %v) has become %v", m, was, kept)
			}
		}
	}
}

// Rule 2: no two bags of one answer share memory, their spare room included, where both measures have the same values too.
func TestBagsOfOneAnswer(t *testing.T) {
	for _, l := range [][]api.Row{{row(4, 4)}, {row(4, 4), row(1, 1), row(4, 4)}, {row(1, 3), row(2, 2), row(3, 1)}} {
		for _, told := range []func() (api.Cell, bool){
			func() (api.Cell, bool) { return Of(2, l...) },
			func() (api.Cell, bool) {
				a, _ := Of(2, l...)
				return Join(2, a, a)
			},
		} {
			for i := range api.MaxMeasures {
				c, ok := told()
				want := copied(c)
				room.Fill(c.Bags[i], wrong)
				if other := 1 - i; !ok || !slices.Equal(c.Bags[other], want.Bags[other]) {
					t.Errorf("of %v: bag %d was %v, and is %v", l, other, want.Bags[other], c.Bags[other])
				}
			}
		}
	}
}
