// Package room is an aid to the tests of what the document's rule 2 says of memory: lists with something marked in the
// room behind them, and lists written over, that room included. No layer calls it.
package room

import (
	"slices"

	"cuboid/api"
)

// Mark stands behind the lists of numbers of what Catalog tells; no catalog has it.
const Mark = -77

// Behind tells the list in memory of its own, with the mark in the room behind it.
func Behind[T any](list []T, mark T) []T {
	return append(slices.Clone(list), mark)[:len(list)]
}

// Fill writes v over the list and over the room behind it.
func Fill[T any](list []T, v T) {
	list = list[:cap(list)]
	for i := range list {
		list[i] = v
	}
}

// Catalog tells c in memory of its own, with marks in the room behind each of its lists.
func Catalog(c api.Catalog) api.Catalog {
	c.Dims = Behind(c.Dims, api.Dim{Sizes: []int{Mark}})
	for i, d := range c.Dims {
		up := Behind(d.Up, []int{Mark})
		for level, list := range up {
			up[level] = Behind(list, Mark)
		}
		c.Dims[i] = api.Dim{Sizes: Behind(d.Sizes, Mark), Up: up}
	}
	return c
}

// Full tells c and all that is in the room behind its lists, in memory of its own.
func Full(c api.Catalog) api.Catalog {
	c.Dims = whole(c.Dims)
	for i, d := range c.Dims {
		up := whole(d.Up)
		for level, list := range up {
			up[level] = whole(list)
		}
		c.Dims[i] = api.Dim{Sizes: whole(d.Sizes), Up: up}
	}
	return c
}

// whole tells the list and what is in the room behind it, in memory of its own.
func whole[T any](list []T) []T {
	return slices.Clone(list[:cap(list)])
}

// Spoil writes over all numbers of c's lists and over the room behind them.
func Spoil(c api.Catalog) {
	for _, d := range c.Dims {
		Fill(d.Sizes, Mark)
		for _, list := range d.Up {
			Fill(list, Mark)
		}
	}
}
