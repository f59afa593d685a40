package schema

import (
	"bytes"
	"slices"
	"testing"

	"cuboid/api"
)

const mark = -77

// roomy: c with room behind each of its lists, the marks in it, and a call that tells whether they are still there.
func roomy(c api.Catalog) (api.Catalog, func() bool) {
	var checks []func() bool
	numbers := func(list []int) []int {
		whole := append(slices.Clone(list), mark, mark)
		checks = append(checks, func() bool { return slices.Equal(whole[len(list):], []int{mark, mark}) })
		return whole[:len(list)]
	}
	dims := make([]api.Dim, 0, len(c.Dims)+1)
	for _, d := range c.Dims {
		ups := make([][]int, 0, len(d.Up)+1)
		for _, list := range d.Up {
			ups = append(ups, numbers(list))
		}
		behind := append(ups, []int{mark})
		checks = append(checks, func() bool { return slices.Equal(behind[len(behind)-1], []int{mark}) })
		dims = append(dims, api.Dim{Sizes: numbers(d.Sizes), Up: ups})
	}
	behind := append(dims, api.Dim{Sizes: []int{mark}})
	checks = append(checks, func() bool { return slices.Equal(behind[len(behind)-1].Sizes, []int{mark}) })
	return api.Catalog{Dims: dims, Measures: c.Measures}, func() bool {
		return !slices.ContainsFunc(checks, func(check func() bool) bool { return !check() })
	}
}

// scribble writes over the bytes and over the room behind them.
func scribble(b []byte) {
	b = b[:cap(b)]
	for i := range b {
		b[i] = 0xaa
	}
}

// number writes over the list and over the room behind it.
func number(list []int, n int) {
	list = list[:cap(list)]
	for i := range list {
		list[i] = n
	}
}

// lists: all lists of numbers that c has.
func lists(c api.Catalog) [][]int {
	var all [][]int
	for _, d := range c.Dims {
		all = append(append(all, d.Sizes), d.Up...)
	}
	return all
}

// spoil writes over all that c has, the room behind its lists too.
func spoil(c api.Catalog) {
	for _, list := range lists(c) {
		number(list, mark)
	}
	dims := c.Dims[:cap(c.Dims)]
	for i := range dims {
		ups := dims[i].Up[:cap(dims[i].Up)]
		for level := range ups {
			ups[level] = []int{mark}
		}
		dims[i] = api.Dim{Sizes: []int{mark}}
	}
}

// Rule 2: what is handed in stays as it is, its spare room too, whatever becomes of what is told.
func TestLeavesItsCatalogs(t *testing.T) {
	for _, was := range slices.Concat(goods(), bads()) {
		c, whole := roomy(was)
		Good(c)
		Same(c, was)
		Same(was, c)
		for dim := range api.MaxDims + 1 {
			Levels(c, dim)
		}
		for level := range uint8(api.MaxLevels + 2) {
			Right(c, api.Node{level, level}, api.Coord{level})
		}
		scribble(Bytes(c))
		if !Same(c, was) || !whole() {
			t.Errorf("%v is now %v, its spare room as it was: %v", was, c, whole())
		}
	}
}

// Rule 2: Read leaves its bytes, and those behind them, and keeps none.
func TestLeavesItsBytes(t *testing.T) {
	for _, was := range goods() {
		b := bytesOf(was)
		for n := range len(b) + 1 {
			whole := slices.Concat(b[:n], []byte{0xaa, 0xaa, 0xaa})
			before := bytes.Clone(whole)
			c, ok := Read(whole[:n])
			if !bytes.Equal(whole, before) {
				t.Fatalf("Read(%x) left %x of %x", b[:n], whole, before)
			}
			scribble(whole)
			if ok && !Same(c, was) {
				t.Fatalf("a change of the bytes changed %v to %v", was, c)
			}
			spoil(c)
			if !bytes.Equal(whole, bytes.Repeat([]byte{0xaa}, len(whole))) {
				t.Fatalf("a change of the catalog changed the bytes to %x", whole)
			}
		}
	}
}

// Rule 2: no two answers share memory, and none of Bytes is the catalog's.
func TestAnswersAreNewMemory(t *testing.T) {
	for _, was := range goods() {
		b := bytesOf(was)
		kept, first := Bytes(was), Bytes(was)
		scribble(first)
		if again := Bytes(was); !bytes.Equal(kept, b) || !bytes.Equal(again, b) {
			t.Errorf("Bytes(%v): %x and %x", was, kept, again)
		}
		c, _ := Read(b)
		other, _ := Read(b)
		spoil(other)
		if again, ok := Read(b); !Same(c, was) || !Same(again, was) || !ok {
			t.Errorf("Read(%x): %v, and again %v %v", b, c, again, ok)
		}
	}
}

// Rule 2: no two lists of one answer share memory, the room behind them counted.
func TestListsAreApart(t *testing.T) {
	for _, was := range goods() {
		c, _ := Read(bytesOf(was))
		all := lists(c)
		for i := range all {
			number(all[i], i)
			for j, list := range all[:i] {
				if slices.ContainsFunc(list[:cap(list)], func(n int) bool { return n != j }) {
					t.Fatalf("%v: a change of list %d changed list %d", was, i, j)
				}
			}
		}
		for i := range c.Dims {
			c.Dims[i].Up = append(c.Dims[i].Up, []int{i})
		}
		for i, d := range c.Dims {
			if !slices.Equal(d.Up[len(d.Up)-1], []int{i}) {
				t.Fatalf("%v: the lists in Up of dimension %d are another one's", was, i)
			}
		}
	}
}
