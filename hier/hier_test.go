package hier

import (
	"math"
	"slices"
	"testing"

	"cuboid/api"
)

// fan: so many numbers, each the remainder of a step's multiple by the next level's members.
func fan(n, next, step int) []int {
	list := make([]int, n)
	for i := range list {
		list[i] = i * step % next
	}
	return list
}

// goods: dimensions of 1 to MaxLevels levels, of few members and of MaxMembers, and some members to which nobody
// belongs.
func goods() []api.Dim {
	return []api.Dim{
		{Sizes: []int{1}},
		{Sizes: []int{2}, Up: [][]int{}},
		{Sizes: []int{api.MaxMembers}},
		{Sizes: []int{4, 2}, Up: [][]int{{0, 0, 1, 1}}},
		{Sizes: []int{2, 3}, Up: [][]int{{0, 2}}},
		{Sizes: []int{1, api.MaxMembers}, Up: [][]int{{api.MaxMembers - 1}}},
		{Sizes: []int{api.MaxMembers, 1}, Up: [][]int{make([]int, api.MaxMembers)}},
		{Sizes: []int{5, 3, 2}, Up: [][]int{{0, 1, 1, 2, 0}, {0, 1, 1}}},
		{Sizes: []int{3, 4, 2}, Up: [][]int{{3, 1, 3}, {1, 0, 1, 1}}},
		{Sizes: []int{12, 6, 3, 2}, Up: [][]int{fan(12, 6, 5), {2, 0, 2, 0, 1, 1}, {1, 0, 1}}},
		{Sizes: []int{1, 1, 1, 1}, Up: [][]int{{0}, {0}, {0}}},
		{Sizes: []int{40, 40, 40, 40}, Up: [][]int{fan(40, 40, 7), fan(40, 40, 6), fan(40, 40, 3)}},
	}
}

// copied: d in memory of its own.
func copied(d api.Dim) api.Dim {
	c := api.Dim{Sizes: slices.Clone(d.Sizes), Up: slices.Clone(d.Up)}
	for i, list := range c.Up {
		c.Up[i] = slices.Clone(list)
	}
	return c
}

func alike(a, b api.Dim) bool {
	return slices.Equal(a.Sizes, b.Sizes) && slices.EqualFunc(a.Up, b.Up, slices.Equal[[]int])
}

// spoilt: d, changed at one place so that it may not be, at each place and in each way that there is.
func spoilt(d api.Dim) []api.Dim {
	var all []api.Dim
	with := func(change func(c *api.Dim)) {
		c := copied(d)
		change(&c)
		all = append(all, c)
	}
	for level := range d.Sizes {
		for _, n := range []int{0, -1, api.MaxMembers + 1, math.MinInt, math.MaxInt} {
			with(func(c *api.Dim) { c.Sizes[level] = n })
		}
	}
	with(func(c *api.Dim) { c.Up = append(c.Up, []int{0}) })
	with(func(c *api.Dim) { c.Up = append(c.Up, nil) })
	with(func(c *api.Dim) { c.Up = append(c.Up, make([]int, d.Sizes[len(d.Sizes)-1])) })
	with(func(c *api.Dim) { c.Sizes = append(c.Sizes, 1) })
	for level, list := range d.Up {
		with(func(c *api.Dim) { c.Up = slices.Delete(c.Up, level, level+1) })
		with(func(c *api.Dim) { c.Up[level] = nil })
		with(func(c *api.Dim) { c.Up[level] = c.Up[level][1:] })
		with(func(c *api.Dim) { c.Up[level] = append(c.Up[level], 0) })
		next := d.Sizes[level+1]
		for m := range list {
			for _, up := range []int{-1, next, next + 1, math.MinInt, math.MaxInt} {
				with(func(c *api.Dim) { c.Up[level][m] = up })
			}
		}
	}
	return all
}

// bads: dimensions that may not be.
func bads() []api.Dim {
	long := make([]int, api.MaxMembers+1)
	all := []api.Dim{
		{}, {Sizes: []int{}, Up: [][]int{}}, {Up: [][]int{{0}}}, {Up: [][]int{{}}},
		{Sizes: []int{1, 1}, Up: [][]int{{}}},
		{Sizes: []int{len(long), 1}, Up: [][]int{long}},
		{Sizes: []int{1, len(long)}, Up: [][]int{{0}}},
		{Sizes: []int{1, len(long)}, Up: [][]int{{api.MaxMembers}}},
		{Sizes: []int{0, 1}, Up: [][]int{{}}}, {Sizes: []int{0, 0}, Up: [][]int{nil}},
		{Sizes: []int{1, 0}, Up: [][]int{{0}}}, {Sizes: []int{1, -1}, Up: [][]int{{-1}}},
		{Sizes: []int{1, 1, 1, 1, 1}, Up: [][]int{{0}, {0}, {0}, {0}}},
		{Sizes: []int{1, 1, 1, 1, 1}, Up: [][]int{{0}, {0}, {0}}},
		{Sizes: make([]int, 5000)}, {Sizes: make([]int, 5001), Up: make([][]int, 5000)},
	}
	for _, d := range goods() {
		all = append(all, spoilt(d)...)
	}
	return all
}

// levels: all of d's, and some that are none.
func levels(d api.Dim) []int {
	l := []int{math.MinInt, math.MinInt + 1, -2, -1, len(d.Sizes) + 1, len(d.Sizes) + 2, math.MaxInt - 1, math.MaxInt}
	for level := range len(d.Sizes) + 1 {
		l = append(l, level)
	}
	return l
}

// numbers: all members that a level may have, and some that it may not.
func numbers() []int {
	l := []int{math.MinInt, math.MinInt + 1, -2, -1, 255, 256, math.MaxInt - 1, math.MaxInt}
	for m := range api.MaxMembers + 2 {
		l = append(l, m)
	}
	return l
}

// paths: of each level of a good d, of each member, the members that it belongs to, of its own level and all those
// behind it. The whole's own is the last.
func paths(d api.Dim) [][][]int {
	all := [][][]int{{{0}}}
	for level := len(d.Sizes) - 1; level >= 0; level-- {
		var here [][]int
		for m := range d.Sizes[level] {
			next := 0
			if level < len(d.Sizes)-1 {
				next = d.Up[level][m]
			}
			here = append(here, slices.Concat([]int{m}, all[0][next]))
		}
		all = slices.Insert(all, 0, here)
	}
	return all
}

// liftOf: what the chapter says of Lift, by the paths.
func liftOf(all [][][]int, from, to, m int) (int, bool) {
	if from < 0 || to >= len(all) || from > to || m < 0 || m >= len(all[from]) {
		return 0, false
	}
	return all[from][m][to-from], true
}

// underOf: what the chapter says of Under, by the paths.
func underOf(all [][][]int, to, m, from int) []int {
	if from < 0 || to >= len(all) || from > to {
		return nil
	}
	var list []int
	for k, path := range all[from] {
		if path[to-from] == m {
			list = append(list, k)
		}
	}
	return list
}

// P3.1: which dimensions may be.
func TestGood(t *testing.T) {
	for _, d := range goods() {
		if !Good(d) {
			t.Errorf("%v may be", d)
		}
	}
	for _, d := range bads() {
		if Good(d) {
			t.Errorf("%v may not be", d)
		}
	}
}

// P3.1, P3.2: of a dimension that may not be there is nothing to tell.
func TestNothingOfBads(t *testing.T) {
	for _, d := range bads() {
		for _, from := range []int{-1, 0, 1, 2, 4, 5, len(d.Sizes), math.MaxInt} {
			if got := Size(d, from); got != 0 {
				t.Fatalf("Size(%v, %d): %d, not 0", d, from, got)
			}
			for _, m := range []int{-1, 0, 1} {
				if got := Kids(d, from, m); len(got) != 0 {
					t.Fatalf("Kids(%v, %d, %d): %v", d, from, m, got)
				}
				for _, to := range []int{-1, 0, 1, 2, 4, 5, len(d.Sizes), math.MaxInt} {
					if got, ok := Lift(d, from, to, m); got != 0 || ok {
						t.Fatalf("Lift(%v, %d, %d, %d): %d %v, not 0 false", d, from, to, m, got, ok)
					}
					if got := Under(d, to, m, from); len(got) != 0 {
						t.Fatalf("Under(%v, %d, %d, %d): %v", d, to, m, from, got)
					}
				}
			}
		}
	}
}

// P3.1: a level's members, of the whole 1, of no level 0.
func TestSize(t *testing.T) {
	for _, d := range goods() {
		all := paths(d)
		for _, level := range levels(d) {
			want := 0
			if level >= 0 && level < len(all) {
				want = len(all[level])
			}
			if got := Size(d, level); got != want {
				t.Errorf("Size(%v, %d): %d, not %d", d, level, got, want)
			}
		}
	}
}

// Example 1, and a path of four levels written out.
func TestExamples(t *testing.T) {
	d := api.Dim{Sizes: []int{4, 2}, Up: [][]int{{0, 0, 1, 1}}}
	if got, ok := Lift(d, 0, 1, 3); got != 1 || !ok {
		t.Errorf("Lift: %d %v, not 1 true", got, ok)
	}
	if got := Under(d, 1, 1, 0); !slices.Equal(got, []int{2, 3}) {
		t.Errorf("Under: %v, not 2, 3", got)
	}
	if got := Kids(d, 2, 0); !slices.Equal(got, []int{0, 1}) {
		t.Errorf("Kids: %v, not 0, 1", got)
	}
	deep := api.Dim{Sizes: []int{3, 4, 2, 2}, Up: [][]int{{3, 1, 3}, {1, 0, 1, 1}, {1, 0}}}
	for to, want := range []int{2, 3, 1, 0, 0} {
		if got, ok := Lift(deep, 0, to, 2); got != want || !ok {
			t.Errorf("Lift from 0 to %d of 2: %d %v, not %d true", to, got, ok, want)
		}
	}
	for m, want := range [][]int{nil, {1}, nil, {0, 2}} {
		if got := Kids(deep, 1, m); !slices.Equal(got, want) {
			t.Errorf("Kids of 1, %d: %v, not %v", m, got, want)
		}
	}
}

// P3.1: Lift at all levels, between all members, and at those that are none.
func TestLift(t *testing.T) {
	for _, d := range goods() {
		all := paths(d)
		for _, from := range levels(d) {
			for _, to := range levels(d) {
				for _, m := range numbers() {
					want, ok := liftOf(all, from, to, m)
					if got, is := Lift(d, from, to, m); got != want || is != ok {
						t.Fatalf("Lift(%v, %d, %d, %d): %d %v, not %d %v", d, from, to, m, got, is, want, ok)
					}
				}
			}
		}
	}
}

// P3.2: Under at all levels, of all members, and of those that are none.
func TestUnder(t *testing.T) {
	for _, d := range goods() {
		all := paths(d)
		for _, from := range levels(d) {
			for _, to := range levels(d) {
				for _, m := range numbers() {
					want := underOf(all, to, m, from)
					if got := Under(d, to, m, from); !slices.Equal(got, want) {
						t.Fatalf("Under(%v, %d, %d, %d): %v, not %v", d, to, m, from, got, want)
					}
				}
			}
		}
	}
}

// P3.2: Kids is Under of the level below; level 0 has none below it.
func TestKids(t *testing.T) {
	for _, d := range goods() {
		all := paths(d)
		for _, level := range levels(d) {
			for _, m := range numbers() {
				var want []int
				if level > 0 {
					want = underOf(all, level, m, level-1)
				}
				if got := Kids(d, level, m); !slices.Equal(got, want) {
					t.Fatalf("Kids(%v, %d, %d): %v, not %v", d, level, m, got, want)
				}
			}
		}
	}
}

// P3.3: lifted twice is lifted once.
func TestLiftedTwice(t *testing.T) {
	for _, d := range goods() {
		for to := range len(d.Sizes) + 1 {
			for mid := range to + 1 {
				for from := range mid + 1 {
					for m := range Size(d, from) {
						half, _ := Lift(d, from, mid, m)
						twice, ok := Lift(d, mid, to, half)
						once, is := Lift(d, from, to, m)
						if once != twice || !ok || !is {
							t.Fatalf("%v: %d of %d over %d to %d: %d %v, not %d %v", d, m, from, mid, to, twice, ok, once, is)
						}
					}
				}
			}
		}
	}
}

// P3.3: each member is under just one of each level, the one that it is lifted to.
func TestUnderJustOne(t *testing.T) {
	for _, d := range goods() {
		for to := range len(d.Sizes) + 1 {
			for from := range to + 1 {
				var owners [api.MaxMembers][]int
				for m := range Size(d, to) {
					for _, k := range Under(d, to, m, from) {
						owners[k] = append(owners[k], m)
					}
				}
				for k := range Size(d, from) {
					want, _ := Lift(d, from, to, k)
					if !slices.Equal(owners[k], []int{want}) {
						t.Fatalf("%v: %d of %d is under %v of %d, not %d", d, k, from, owners[k], to, want)
					}
				}
			}
		}
	}
}

// roomy: d with room behind each of its lists, and a call that tells whether that room is as it was.
func roomy(d api.Dim) (api.Dim, func() bool) {
	const mark = -77
	lists := [][]int{append(slices.Clone(d.Sizes), mark, mark)}
	ups := make([][]int, 0, len(d.Up)+1)
	for _, list := range d.Up {
		lists = append(lists, append(slices.Clone(list), mark, mark))
		ups = append(ups, lists[len(lists)-1][:len(list)])
	}
	behind := append(ups, []int{mark})[:len(ups)+1]
	return api.Dim{Sizes: lists[0][:len(d.Sizes)], Up: ups}, func() bool {
		ok := slices.Equal(behind[len(behind)-1], []int{mark})
		for _, list := range lists {
			ok = ok && slices.Equal(list[len(list)-2:], []int{mark, mark})
		}
		return ok
	}
}

// scribble: writes over the list and over the room behind it.
func scribble(list []int) {
	list = list[:cap(list)]
	for i := range list {
		list[i] = -99
	}
}

// Rule 2: what is handed in stays as it is, its spare room too, whatever becomes of what is told.
func TestLeavesItsArguments(t *testing.T) {
	for _, was := range slices.Concat(goods(), bads()[:200]) {
		d, whole := roomy(was)
		Good(d)
		for from := range len(was.Sizes) + 1 {
			Size(d, from)
			for m := range 3 {
				scribble(Kids(d, from, m))
				for to := range len(was.Sizes) + 1 {
					Lift(d, from, to, m)
					scribble(Under(d, to, m, from))
				}
			}
			if from > 5 {
				break
			}
		}
		if !alike(d, was) || !whole() {
			t.Errorf("%v is now %v, its spare room as it was: %v", was, d, whole())
		}
	}
}

// Rule 2: no two answers share memory, of the same question or of another.
func TestAnswersAreNewMemory(t *testing.T) {
	for _, d := range goods() {
		all := paths(d)
		for to := range all {
			for from := range to + 1 {
				for m := range all[to] {
					want := underOf(all, to, m, from)
					kept, first := Under(d, to, m, from), Under(d, to, m, from)
					scribble(first)
					if again := Under(d, to, m, from); !slices.Equal(again, want) || !slices.Equal(kept, want) {
						t.Fatalf("Under(%v, %d, %d, %d): %v and %v, not %v", d, to, m, from, kept, again, want)
					}
					if from != to-1 {
						continue
					}
					kept, first = Kids(d, to, m), Kids(d, to, m)
					scribble(first)
					if again := Kids(d, to, m); !slices.Equal(again, want) || !slices.Equal(kept, want) {
						t.Fatalf("Kids(%v, %d, %d): %v and %v, not %v", d, to, m, kept, again, want)
					}
				}
			}
		}
	}
}
