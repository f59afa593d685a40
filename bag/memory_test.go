package bag

import (
	"slices"
	"testing"

	"cuboid/api"
	"cuboid/room"
)

// wrong: a run that no test hands in.
var wrong = api.Run{V: -4711, N: -4711}

// held: a list in memory of its own with a mark behind it, and whether it and that are still what they were.
type held[T comparable] struct{ list, was []T }

func hold[T comparable](list []T, mark T) held[T] {
	list = room.Behind(list, mark)
	return held[T]{list, slices.Clone(list[:cap(list)])}
}

func (h held[T]) left() bool {
	return slices.Equal(h.list[:cap(h.list)], h.was)
}

// Rule 2: what is asked of one bag leaves it as it is, its spare room too.
func TestLeavesItsBag(t *testing.T) {
	for _, b := range some() {
		h := hold(b, wrong)
		Good(h.list)
		Count(h.list)
		Has(h.list, 0)
		Least(h.list)
		Greatest(h.list)
		Sum(h.list)
		if !h.left() {
			t.Fatalf("%v is now %v", h.was, h.list[:cap(h.list)])
		}
	}
}

// Rule 2: what is asked of two leaves both as they are, whatever becomes of what is told; and what is told is not changed
// with them.
func TestLeavesBoth(t *testing.T) {
	for _, told := range []func(a, b []api.Run) ([]api.Run, bool){Join, Minus} {
		for _, a := range some() {
			for _, b := range some() {
				first, second := hold(a, wrong), hold(b, wrong)
				Same(first.list, second.list)
				Net(first.list, second.list)
				kept, _ := told(first.list, second.list)
				want := slices.Clone(kept)
				other, _ := told(first.list, second.list)
				room.Fill(other, wrong)
				if !first.left() || !second.left() {
					t.Fatalf("%v and %v are now %v and %v", a, b, first.list, second.list)
				}
				room.Fill(first.list, wrong)
				room.Fill(second.list, wrong)
				if !slices.Equal(kept, want) {
					t.Fatalf("of %v and %v %v was told, which is now %v", a, b, want, kept)
				}
			}
		}
	}
}

// Rule 2: a bag that is handed in twice is left too.
func TestLeavesOneTwice(t *testing.T) {
	for _, b := range some() {
		h := hold(b, wrong)
		joined, _ := Join(h.list, h.list)
		none, _ := Minus(h.list, h.list)
		room.Fill(joined, api.Run{})
		room.Fill(none, api.Run{})
		if !h.left() {
			t.Fatalf("%v is now %v", h.was, h.list[:cap(h.list)])
		}
	}
}

// Rule 2: a list that is handed to Of whole keeps its order and its spare room, and no two answers share memory.
func TestOfLeavesItsValues(t *testing.T) {
	for _, l := range [][]int64{nil, {}, {4}, {3, 1, 3}, {top, low, 0, top, low, 0}, {5, 4, 3, 2, 1, 0, -1, -2, -3, -4, -5, -6, -7, -8}} {
		h := hold(l, -4711)
		kept := Of(h.list...)
		room.Fill(Of(h.list...), wrong)
		if !h.left() {
			t.Fatalf("%v is now %v", h.was, h.list[:cap(h.list)])
		}
		room.Fill(h.list, -4711)
		if !slices.Equal(kept, ofOf(l)) {
			t.Fatalf("Of(%v) has become %v", l, kept)
		}
	}
}
