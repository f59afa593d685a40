package delta

import (
	"slices"
	"testing"

	"cuboid/api"
	"cuboid/bag"
	"cuboid/cell"
)

// rows: the cell of one measure's values.
func rows(l ...int64) api.Cell {
	var all []api.Row
	for _, v := range l {
		all = append(all, api.Row{M: [api.MaxMeasures]int64{v}})
	}
	c, _ := cell.Of(1, all...)
	return c
}

// pairs: the cell of rows of two measures each.
func pairs(l ...[api.MaxMeasures]int64) api.Cell {
	var all []api.Row
	for _, m := range l {
		all = append(all, api.Row{M: m})
	}
	c, _ := cell.Of(2, all...)
	return c
}

// crowd: what is said to be a cell of one measure.
func crowd(n, sum int64, b []api.Run) api.Cell {
	return api.Cell{N: n, Sum: [api.MaxMeasures]int64{sum}, Bags: bags{b}}
}

// place: a cell, or none.
type place struct {
	c  api.Cell
	is bool
}

// at: a place whose cell this is; gone: one that has none.
func at(c api.Cell) place { return place{c, true} }

var gone = place{}

// places: those whose cells may be, of m measures, and one that has none.
func places(m int) []place {
	all := []place{gone, {api.Cell{Bags: bags{{}, {}}}, false}}
	cells := []api.Cell{
		rows(5), rows(3), rows(5, 5), rows(3, 5), rows(-2, 5, 5), rows(-3, 4), rows(0), rows(0, 0), rows(-1, 1), rows(1, 2, 6), rows(3, 4, 5, 7), rows(top), rows(low), rows(-top), rows(-1), rows(1, 2), rows(top - 1), rows(1, top-1), rows(low + 1), rows(low, top), rows(low, low, top, top), rows(-1, low, top), rows(top-1, top-1, low+1), rows(-1, -1, 0, 0, 3, 3),
		crowd(most, 0, runs(0, most)), crowd(most, most, runs(1, most)), crowd(most-1, 0, runs(0, most-1)), crowd(most, 1, runs(0, most-1, 1, 1)), crowd(most, low, runs(-1<<23, most)), crowd(most, -most/2, runs(low, most/2, top, most/2)), crowd(most/2, 0, runs(0, most/2)),
	}
	for _, c := range cells {
		if m == 2 {
			// Other values of the second measure, of as many rows.
			other := c
			c.Sum[1], c.Bags[1] = c.Sum[0], slices.Clone(c.Bags[0])
			all = append(all, at(c))
			other.Bags[1] = runs(0, c.N)
			c = other
		}
		all = append(all, at(c))
	}
	return all
}

// noPlaces: cells that may not be, such that are of another number of measures, none that is said to be one, and cells
// that are said to be none.
func noPlaces(m int) []place {
	all := []place{{api.Cell{}, true}, {api.Cell{N: 1}, false}, {api.Cell{N: low}, false}, at(crowd(0, 0, nil)), at(crowd(most+1, 0, runs(0, most+1))), at(crowd(2, 3, runs(2, 1, 1, 1)))}
	for i := range api.MaxMeasures {
		var sum, values api.Cell
		sum.Sum[i] = 1
		values.Bags[i] = runs(0, 1)
		nothing := values
		nothing.Bags[i] = runs(0, 0)
		all = append(all, place{sum, false}, place{values, false}, place{nothing, false})
	}
	for _, p := range places(m) {
		if !p.is {
			continue
		}
		all = append(all, place{p.c, false})
		for i := range api.MaxMeasures {
			n, sum, values := p.c, p.c, p.c
			n.N++
			sum.Sum[i]++
			values.Bags[i] = slices.Concat(p.c.Bags[i], runs(top, 0))
			all = append(all, at(n), at(sum), at(values))
		}
	}
	for _, other := range measures() {
		for _, p := range places(other) {
			if other != m && p.is {
				all = append(all, p)
			}
		}
	}
	return all
}

// standsOf: whether a place's cell may be, or is zero where there is none.
func standsOf(m int, p place) bool {
	if p.is {
		return cell.Good(m, p.c)
	}
	return (m == 1 || m == 2) && cell.Same(p.c, api.Cell{})
}

// The places are what they are said to be.
func TestPlaces(t *testing.T) {
	for _, m := range measures() {
		for _, p := range places(m) {
			if !standsOf(m, p) {
				t.Errorf("%v may not be, of %d measures", p, m)
			}
		}
		for _, p := range noPlaces(m) {
			if standsOf(m, p) {
				t.Errorf("%v may be, of %d measures", p, m)
			}
		}
	}
}

// applyOf: what the chapter says of Apply, value by value.
func applyOf(m int, p place, d api.Delta) (place, bool) {
	next := at(api.Cell{N: p.c.N + d.N})
	if !goodOf(m, d) || !standsOf(m, p) || next.c.N < 0 || next.c.N > most {
		return gone, false
	}
	for i := range m {
		for _, v := range valuesOf(p.c.Bags[i], d.In[i], d.Out[i]) {
			left := bag.Has(p.c.Bags[i], v) - bag.Has(d.Out[i], v)
			if left < 0 {
				return gone, false
			}
			if n := left + bag.Has(d.In[i], v); n > 0 {
				next.c.Bags[i] = append(next.c.Bags[i], api.Run{V: v, N: n})
			}
		}
		sum, fits := plus(p.c.Sum[i], d.Sum[i])
		if !fits {
			return gone, false
		}
		next.c.Sum[i] = sum
	}
	if next.c.N == 0 {
		return gone, cell.Same(next.c, api.Cell{})
	}
	return next, cell.Good(m, next.c)
}

// holdApply: Apply tells what the chapter says.
func holdApply(t *testing.T, m int, p place, d api.Delta) bool {
	t.Helper()
	want, fine := applyOf(m, p, d)
	if got, is, ok := Apply(m, p.c, p.is, d); !cell.Same(got, want.c) || is != want.is || ok != fine {
		t.Fatalf("Apply(%d, %v, %v, %v): %v %v %v, not %v %v", m, p.c, p.is, d, got, is, ok, want, fine)
	}
	return fine
}

type applied struct {
	p    place
	d    api.Delta
	want place
	ok   bool
}

func holdApplied(t *testing.T, m int, l []applied) {
	t.Helper()
	for _, x := range l {
		if got, is, ok := Apply(m, x.p.c, x.p.is, x.d); !cell.Same(got, x.want.c) || is != x.want.is || ok != x.ok {
			t.Errorf("Apply(%d, %v, %v, %v): %v %v %v, not %v %v", m, x.p.c, x.p.is, x.d, got, is, ok, x.want, x.ok)
		}
	}
}

// P10.3: some written out: to none, to some, where none is left, what goes more often than it is there.
func TestApply(t *testing.T) {
	five, noFive := one(1, 5, runs(5, 1), nil), one(-1, -5, nil, runs(5, 1))
	holdApplied(t, 1, []applied{
		{gone, five, at(rows(5)), true}, {gone, api.Delta{}, gone, true}, {gone, noFive, gone, false}, {gone, one(0, 2, runs(5, 1), runs(3, 1)), gone, false}, {gone, one(2, 8, runs(3, 1, 5, 1), nil), at(rows(3, 5)), true}, {gone, one(1, 6, runs(3, 1, 5, 1), runs(2, 1)), gone, false},
		{at(rows(5)), five, at(rows(5, 5)), true}, {at(rows(3)), five, at(rows(3, 5)), true}, {at(rows(5)), api.Delta{}, at(rows(5)), true}, {at(rows(5)), noFive, gone, true}, {at(rows(5, 5)), noFive, at(rows(5)), true}, {at(rows(3, 5)), noFive, at(rows(3)), true}, {at(rows(5, 5)), one(-2, -10, nil, runs(5, 2)), gone, true}, {at(rows(3, 5)), one(-2, -8, nil, runs(3, 1, 5, 1)), gone, true},
		{at(rows(5)), one(0, -2, runs(3, 1), runs(5, 1)), at(rows(3)), true}, {at(rows(1, 2, 2, 3)), one(-1, -1, runs(4, 1), runs(2, 1, 3, 1)), at(rows(1, 2, 4)), true}, {at(rows(-1, 1)), one(0, 0, runs(0, 2), runs(-1, 1, 1, 1)), at(rows(0, 0)), true}, {at(rows(0)), one(-1, 0, nil, runs(0, 1)), gone, true}, {gone, one(1, 0, runs(0, 1), nil), at(rows(0)), true},
		{at(rows(5)), one(-2, -10, nil, runs(5, 2)), gone, false}, {at(rows(5)), one(-1, -4, nil, runs(4, 1)), gone, false}, {at(rows(5)), one(0, 4, runs(8, 1), runs(4, 1)), gone, false}, {at(rows(5)), one(-1, -4, runs(7, 1), runs(5, 1, 6, 1)), gone, false}, {at(rows(5)), one(-2, -9, nil, runs(4, 1, 5, 1)), gone, false}, {at(rows(1, 2, 2, 3)), one(-1, -3, runs(4, 1), runs(2, 1, 5, 1)), gone, false}, {at(rows(5, 5)), one(1, -3, runs(2, 3, 6, 1), runs(5, 3)), gone, false},
		{place{rows(5), false}, five, gone, false}, {place{rows(5), false}, noFive, gone, false}, {place{rows(5), false}, api.Delta{}, gone, false}, {place{api.Cell{}, true}, five, gone, false}, {place{api.Cell{}, true}, api.Delta{}, gone, false}, {place{api.Cell{N: 1}, false}, five, gone, false}, {place{api.Cell{Bags: bags{nil, runs(0, 1)}}, false}, five, gone, false}, {place{api.Cell{Sum: [2]int64{0, 1}}, false}, five, gone, false}, {place{api.Cell{Bags: bags{{}, {}}}, false}, five, at(rows(5)), true},
		{at(crowd(1, 4, runs(5, 1))), five, gone, false}, {at(crowd(2, 5, runs(5, 1))), noFive, gone, false}, {at(rows(5)), one(0, 3, nil, nil), gone, false}, {at(rows(5)), one(0, 0, runs(5, 1), runs(5, 1)), gone, false}, {at(rows(5)), one(-1, -5, runs(5, 1), runs(5, 2)), gone, false}, {at(rows(5)), two(five, five), gone, false}, {at(pairs([2]int64{5, 5})), noFive, gone, false},
	})
	holdApplied(t, 2, []applied{
		{gone, two(five, one(1, 7, runs(7, 1), nil)), at(pairs([2]int64{5, 7})), true}, {at(pairs([2]int64{5, 7})), two(noFive, one(-1, -7, nil, runs(7, 1))), gone, true}, {at(pairs([2]int64{5, 7}, [2]int64{1, 2})), two(noFive, one(-1, -7, nil, runs(7, 1))), at(pairs([2]int64{1, 2})), true}, {at(pairs([2]int64{5, 7})), two(api.Delta{}, one(0, 1, runs(8, 1), runs(7, 1))), at(pairs([2]int64{5, 8})), true},
		{at(pairs([2]int64{5, 7})), two(noFive, one(-1, -8, nil, runs(8, 1))), gone, false}, {at(pairs([2]int64{5, 7})), two(one(-1, -6, nil, runs(6, 1)), one(-1, -7, nil, runs(7, 1))), gone, false}, {at(pairs([2]int64{1, top})), two(one(1, 1, runs(1, 1), nil), one(1, 1, runs(1, 1), nil)), gone, false}, {at(pairs([2]int64{1, low})), two(one(1, 1, runs(1, 1), nil), one(1, 1, runs(1, 1), nil)), at(pairs([2]int64{1, low}, [2]int64{1, 1})), true}, {at(rows(5)), api.Delta{}, gone, false}, {at(rows(5)), two(five, five), gone, false}, {at(pairs([2]int64{5, 5})), five, gone, false},
	})
}

// P10.3: at the ends: just MaxCount and one more, the last int64 and one beyond, and what does not fit on the way alone.
func TestApplyAtTheEnds(t *testing.T) {
	full := crowd(most, 0, runs(0, most))
	holdApplied(t, 1, []applied{
		{at(full), one(1, 0, runs(0, 1), nil), gone, false}, {at(full), one(1, 1, runs(1, 1), nil), gone, false}, {at(crowd(most-1, 0, runs(0, most-1))), one(1, 1, runs(1, 1), nil), at(crowd(most, 1, runs(0, most-1, 1, 1))), true}, {at(crowd(most-1, 0, runs(0, most-1))), one(2, 2, runs(1, 2), nil), gone, false}, {at(full), one(-1, 0, nil, runs(0, 1)), at(crowd(most-1, 0, runs(0, most-1))), true}, {at(full), one(-most, 0, nil, runs(0, most)), gone, true}, {gone, one(most, 0, runs(0, most), nil), at(full), true}, {at(crowd(most-1, 0, runs(0, most-1))), one(-most, 0, nil, runs(0, most)), gone, false},
		{at(full), one(0, 7, runs(7, 1), runs(0, 1)), at(crowd(most, 7, runs(0, most-1, 7, 1))), true}, {at(full), one(0, most, runs(1, most), runs(0, most)), at(crowd(most, most, runs(1, most))), true}, {at(full), one(1, 14, runs(7, 2), runs(0, 1)), gone, false}, {at(full), one(most, 0, runs(0, most), nil), gone, false}, {at(rows(1)), one(most, 0, runs(0, most), nil), gone, false}, {at(rows(1)), one(most-1, -1, runs(0, most), runs(1, 1)), at(full), true}, {at(rows(1)), one(1-most, 1, runs(1, 1), runs(0, most)), gone, false},
		{at(rows(top)), one(1, 1, runs(1, 1), nil), gone, false}, {at(rows(top)), one(1, 0, runs(0, 1), nil), at(rows(0, top)), true}, {at(rows(top - 1)), one(1, 1, runs(1, 1), nil), at(rows(1, top-1)), true}, {at(rows(top)), one(0, 1-top, runs(1, 1), runs(top, 1)), at(rows(1)), true}, {at(rows(top)), one(-1, -top, nil, runs(top, 1)), gone, true}, {at(rows(top, -5)), one(-1, 5, nil, runs(-5, 1)), at(rows(top)), true}, {at(rows(top, -5, 2)), one(-1, 5, nil, runs(-5, 1)), gone, false}, {at(rows(top, -5, 2)), one(-1, 4, runs(-4, 1), runs(-5, 1, -3, 1)), gone, false},
		{at(rows(low)), one(1, -1, runs(-1, 1), nil), gone, false}, {at(rows(low)), one(1, 1, runs(1, 1), nil), at(rows(low, 1)), true}, {at(rows(low)), one(0, top, runs(-1, 1), runs(low, 1)), at(rows(-1)), true}, {at(rows(low, 5)), one(-1, -5, nil, runs(5, 1)), at(rows(low)), true}, {at(rows(low, 5, -1)), one(-1, -5, nil, runs(5, 1)), gone, false}, {gone, one(1, low, runs(low, 1), nil), at(rows(low)), true}, {at(rows(top)), one(1, low, runs(low, 1), nil), at(rows(low, top)), true},
		// The sum of what comes is no int64, that of what goes neither, and both together are one.
		{at(rows(top-1, top-1, low+1)), one(0, 2, runs(top, 2), runs(top-1, 2)), at(rows(top, top, low+1)), true}, {at(rows(top-1, top-1, low+2)), one(0, 2, runs(top, 2), runs(top-1, 2)), gone, false},
	})
}

// deltas: such that may be, and the small ones, of m measures.
func deltas(m int) []api.Delta {
	all := goods(m)
	for i, d := range small() {
		if m == 2 {
			// Of the second measure as many more, of other values.
			other := one(d.N, 0, nil, nil)
			if d.N > 0 {
				other.In[0] = runs(0, d.N)
			}
			if d.N < 0 {
				other.Out[0] = runs(0, -d.N)
			}
			d = two(d, [2]api.Delta{d, other}[i%2])
		}
		all = append(all, d)
	}
	return all
}

// P10.3: each delta that may be to each cell that may be and to none; each of the two with each that may not be.
func TestApplyOfAll(t *testing.T) {
	for _, m := range measures() {
		fine, not := 0, 0
		for _, d := range deltas(m) {
			for _, p := range places(m) {
				if holdApply(t, m, p, d) {
					fine++
				} else {
					not++
				}
			}
			for _, p := range noPlaces(m) {
				if holdApply(t, m, p, d) {
					t.Errorf("Apply(%d, %v, %v, %v) tells true", m, p.c, p.is, d)
				}
			}
		}
		for _, d := range bads(m) {
			for _, p := range places(m) {
				if holdApply(t, m, p, d) {
					t.Errorf("Apply(%d, %v, %v, %v) tells true", m, p.c, p.is, d)
				}
			}
		}
		if fine < 500 || not < 500 {
			t.Errorf("of %d measures %d are fine, %d are not", m, fine, not)
		}
	}
}

// P10.3, P10.4: nothing is told of an m that is none, of nothing either.
func TestApplyOfNoMeasures(t *testing.T) {
	for _, m := range noMeasures() {
		for _, p := range slices.Concat(places(1), places(2), noPlaces(1)[:20]) {
			for _, d := range []api.Delta{{}, one(1, 5, runs(5, 1), nil), two(one(1, 5, runs(5, 1), nil), one(1, 5, runs(5, 1), nil))} {
				if got, is, ok := Apply(m, p.c, p.is, d); !cell.Same(got, api.Cell{}) || is || ok {
					t.Errorf("Apply(%d, %v, %v, %v): %v %v %v", m, p.c, p.is, d, got, is, ok)
				}
			}
			for _, other := range []place{gone, p} {
				if d, ok := Between(m, p.c, p.is, other.c, other.is); !zero(d) || ok {
					t.Errorf("Between(%d, %v, %v): %v %v", m, p, other, d, ok)
				}
			}
		}
	}
}

// betweenOf: what the chapter says of Between: the one delta behind which a is b, value by value.
func betweenOf(m int, a, b place) (api.Delta, bool) {
	if !standsOf(m, a) || !standsOf(m, b) {
		return api.Delta{}, false
	}
	d := api.Delta{N: b.c.N - a.c.N}
	for i := range m {
		sum, fits := less(b.c.Sum[i], a.c.Sum[i])
		if !fits {
			return api.Delta{}, false
		}
		d.Sum[i] = sum
		for _, v := range valuesOf(a.c.Bags[i], b.c.Bags[i]) {
			more := bag.Has(b.c.Bags[i], v) - bag.Has(a.c.Bags[i], v)
			if more > 0 {
				d.In[i] = append(d.In[i], api.Run{V: v, N: more})
			}
			if more < 0 {
				d.Out[i] = append(d.Out[i], api.Run{V: v, N: -more})
			}
		}
	}
	return d, goodOf(m, d)
}

// holdBetween: Between tells what the chapter says, and what it tells makes b of a.
func holdBetween(t *testing.T, m int, a, b place) bool {
	t.Helper()
	want, fine := betweenOf(m, a, b)
	got, ok := Between(m, a.c, a.is, b.c, b.is)
	if !sameOf(got, want) || ok != fine {
		t.Fatalf("Between(%d, %v, %v): %v %v, not %v %v", m, a, b, got, ok, want, fine)
	}
	if !fine {
		return false
	}
	if c, is, ok := Apply(m, a.c, a.is, got); !cell.Same(c, b.c) || is != b.is || !ok {
		t.Fatalf("%v applied to %v: %v %v %v, not %v", got, a, c, is, ok, b)
	}
	return true
}

// P10.4: some written out: two cells, one and none, none and one, none and none; what may not be.
func TestBetween(t *testing.T) {
	for _, x := range []struct {
		m    int
		a, b place
		want api.Delta
		ok   bool
	}{
		{1, gone, at(rows(5)), one(1, 5, runs(5, 1), nil), true}, {1, at(rows(5)), gone, one(-1, -5, nil, runs(5, 1)), true}, {1, gone, gone, api.Delta{}, true}, {2, gone, gone, api.Delta{}, true}, {1, at(rows(5, 6)), at(rows(6, 5)), api.Delta{}, true}, {1, at(rows(5, 5, 3)), at(rows(5, 4)), one(-1, -4, runs(4, 1), runs(3, 1, 5, 1)), true}, {1, at(rows(5)), at(rows(5, 5)), one(1, 5, runs(5, 1), nil), true}, {1, at(rows(0, 0)), at(rows(-1, 1)), one(0, 0, runs(-1, 1, 1, 1), runs(0, 2)), true},
		{2, at(pairs([2]int64{5, 7})), at(pairs([2]int64{5, 8})), two(api.Delta{}, one(0, 1, runs(8, 1), runs(7, 1))), true}, {2, gone, at(pairs([2]int64{5, 7})), two(one(1, 5, runs(5, 1), nil), one(1, 7, runs(7, 1), nil)), true}, {2, at(pairs([2]int64{5, low})), gone, api.Delta{}, false}, {2, at(pairs([2]int64{low, 5})), gone, api.Delta{}, false},
		{1, gone, at(rows(low)), one(1, low, runs(low, 1), nil), true}, {1, at(rows(low)), gone, api.Delta{}, false}, {1, at(rows(2)), at(rows(top)), one(0, top-2, runs(top, 1), runs(2, 1)), true}, {1, at(rows(-1)), at(rows(top)), api.Delta{}, false}, {1, at(rows(0)), at(rows(low)), one(0, low, runs(low, 1), runs(0, 1)), true}, {1, at(rows(1)), at(rows(low)), api.Delta{}, false}, {1, at(rows(low)), at(rows(-1)), one(0, top, runs(-1, 1), runs(low, 1)), true}, {1, at(rows(low)), at(rows(0)), api.Delta{}, false}, {1, at(rows(top)), at(rows(-1)), one(0, low, runs(-1, 1), runs(top, 1)), true}, {1, at(rows(top)), at(rows(-2)), api.Delta{}, false},
		{1, at(crowd(most, 0, runs(0, most))), gone, one(-most, 0, nil, runs(0, most)), true}, {1, gone, at(crowd(most, 0, runs(0, most))), one(most, 0, runs(0, most), nil), true}, {1, at(crowd(most, 0, runs(0, most))), at(crowd(most, most, runs(1, most))), one(0, most, runs(1, most), runs(0, most)), true}, {1, at(rows(low, top)), at(rows(low, low, top, top)), one(2, -1, runs(low, 1, top, 1), nil), true},
		{1, place{rows(5), false}, at(rows(5)), api.Delta{}, false}, {1, at(rows(5)), place{rows(5), false}, api.Delta{}, false}, {1, place{rows(5), false}, place{rows(5), false}, api.Delta{}, false}, {1, place{api.Cell{}, true}, at(rows(5)), api.Delta{}, false}, {1, at(rows(5)), place{api.Cell{}, true}, api.Delta{}, false}, {1, place{api.Cell{}, true}, place{api.Cell{}, true}, api.Delta{}, false}, {1, place{api.Cell{N: 1}, false}, gone, api.Delta{}, false}, {1, gone, place{api.Cell{Bags: bags{nil, runs(0, 0)}}, false}, api.Delta{}, false},
		{1, at(crowd(1, 4, runs(5, 1))), at(rows(5)), api.Delta{}, false}, {1, at(rows(5)), at(crowd(2, 5, runs(5, 1))), api.Delta{}, false}, {2, at(rows(5)), gone, api.Delta{}, false}, {2, gone, at(rows(5)), api.Delta{}, false}, {1, gone, at(pairs([2]int64{5, 7})), api.Delta{}, false}, {1, gone, place{api.Cell{Bags: bags{{}, {}}}, false}, api.Delta{}, true},
	} {
		if got, ok := Between(x.m, x.a.c, x.a.is, x.b.c, x.b.is); !sameOf(got, x.want) || ok != x.ok {
			t.Errorf("Between(%d, %v, %v): %v %v, not %v %v", x.m, x.a, x.b, got, ok, x.want, x.ok)
		}
	}
}

// P10.4: each two that may be, either way round; each of them with each that may not be.
func TestBetweenOfAll(t *testing.T) {
	for _, m := range measures() {
		fine, not := 0, 0
		for _, a := range places(m) {
			for _, b := range places(m) {
				if holdBetween(t, m, a, b) {
					fine++
				} else {
					not++
				}
			}
			for _, b := range noPlaces(m) {
				if holdBetween(t, m, a, b) || holdBetween(t, m, b, a) {
					t.Errorf("Between(%d, %v, %v), or the other way round, tells true", m, a, b)
				}
			}
		}
		if fine < 500 || not < 50 {
			t.Errorf("of %d measures %d are fine, %d are not", m, fine, not)
		}
	}
}

// P10.5: each delta and its Neg, one behind the other, either one first, leave each cell, or none, as it was.
func TestThereAndBack(t *testing.T) {
	for _, m := range measures() {
		held, left := 0, 0
		for _, d := range deltas(m) {
			back, ok := Neg(m, d)
			for _, p := range places(m) {
				there, is, fine := Apply(m, p.c, p.is, d)
				if !ok || !fine {
					continue
				}
				if c, was, ok := Apply(m, there, is, back); !cell.Same(c, p.c) || was != p.is || !ok {
					t.Fatalf("%v and its Neg turn %v into %v %v %v", d, p, c, was, ok)
				}
				held++
				if !is || !p.is {
					left++
				}
			}
		}
		if held < 500 || left < 20 {
			t.Errorf("of %d measures %d came back, %d of them from or to none", m, held, left)
		}
	}
}

// P10.3, P10.5: the examples.
func TestExamples(t *testing.T) {
	ch := api.Change{Row: api.Row{At: api.Coord{1}, M: [api.MaxMeasures]int64{5}}}
	d, ok := Of(1, ch)
	if !ok || d.N != 1 || d.Sum[0] != 5 || !slices.Equal(d.In[0], runs(5, 1)) || len(d.Out[0]) != 0 {
		t.Errorf("Of a change that comes with 5: %v %v", d, ok)
	}
	c, _ := cell.Of(1, ch.Row)
	back, ok := Neg(1, d)
	if none, is, fine := Apply(1, c, true, back); !ok || !cell.Same(none, api.Cell{}) || is || !fine {
		t.Errorf("its Neg applied to its cell: %v %v %v", none, is, fine)
	}
}
