package room

import (
	"slices"
	"testing"

	"cuboid/api"
	"cuboid/schema"
)

func two() api.Catalog {
	return api.Catalog{Dims: []api.Dim{{Sizes: []int{2, 3}, Up: [][]int{{0, 2}}}, {Sizes: []int{1}}}, Measures: 1}
}

// A write behind the end of a list is seen in Full, whichever list it is, and nowhere else.
func TestFullSeesTheRoom(t *testing.T) {
	for i, write := range []func(c api.Catalog){
		func(c api.Catalog) { _ = append(c.Dims, api.Dim{}) },
		func(c api.Catalog) { _ = append(c.Dims[0].Sizes, 5) },
		func(c api.Catalog) { _ = append(c.Dims[1].Sizes, 5) },
		func(c api.Catalog) { _ = append(c.Dims[0].Up, nil) },
		func(c api.Catalog) { _ = append(c.Dims[1].Up, nil) },
		func(c api.Catalog) { _ = append(c.Dims[0].Up[0], 5) },
	} {
		c := Catalog(two())
		before := Full(c)
		if !schema.Same(c, two()) || !schema.Same(Full(c), before) {
			t.Fatalf("Catalog tells %v, then Full %v and %v", c, before, Full(c))
		}
		write(c)
		if !schema.Same(c, two()) || schema.Same(Full(c), before) {
			t.Errorf("write %d is not seen: %v", i, Full(c))
		}
	}
}

// What is told is memory of its own.
func TestMemoryOfItsOwn(t *testing.T) {
	was := two()
	c := Catalog(was)
	held := Full(c)
	before := Full(held)
	Spoil(c)
	if !schema.Same(was, two()) || !schema.Same(held, before) {
		t.Errorf("a change of what was told changed %v, %v", was, held)
	}
	if schema.Good(c) || c.Dims[0].Up[0][1] != Mark {
		t.Errorf("Spoil leaves %v", c)
	}
}

// Fill reaches behind the end.
func TestFill(t *testing.T) {
	list := Behind([]int{1, 2}, 9)
	if whole := list[:3]; !slices.Equal(list, []int{1, 2}) || whole[2] != 9 {
		t.Errorf("Behind tells %v, and %v behind it", list, whole[2])
	}
	Fill(list, 4)
	if whole := list[:3]; !slices.Equal(whole, []int{4, 4, 4}) {
		t.Errorf("Fill leaves %v", whole)
	}
}
