package cell

import (
	"math/big"
	"slices"
	"testing"

	"cuboid/api"
)

// row: a fact of these measures, somewhere.
func row(first, second int64) api.Row {
	return api.Row{At: api.Coord{uint8(first), uint8(second), 3, 4}, M: [api.MaxMeasures]int64{first, second}}
}

// firsts: facts whose first measures these are.
func firsts(l ...int64) []api.Row {
	var all []api.Row
	for _, v := range l {
		all = append(all, row(v, 0))
	}
	return all
}

// valued: the bag and the sum of values, by numbers without an end; false where the sum is no int64.
func valued(l []int64) ([]api.Run, int64, bool) {
	l = slices.Clone(l)
	slices.Sort(l)
	var b []api.Run
	for _, v := range slices.Compact(slices.Clone(l)) {
		r := api.Run{V: v}
		for _, w := range l {
			if v == w {
				r.N++
			}
		}
		b = append(b, r)
	}
	sum := sumOf(b)
	return b, sum.Int64(), sum.IsInt64()
}

// ofOf: what the chapter says of Of.
func ofOf(m int, l []api.Row) (api.Cell, bool) {
	if m < 1 || m > api.MaxMeasures || len(l) == 0 {
		return api.Cell{}, false
	}
	c := api.Cell{N: int64(len(l))}
	for i := range m {
		var values []int64
		for _, r := range l {
			values = append(values, r.M[i])
		}
		b, sum, ok := valued(values)
		if !ok {
			return api.Cell{}, false
		}
		c.Bags[i], c.Sum[i] = b, sum
	}
	return c, true
}

// zero: whether c says nothing at all.
func zero(c api.Cell) bool {
	return sameOf(c, api.Cell{})
}

// holdOf: Of tells what the chapter says, and what it tells may be.
func holdOf(t *testing.T, m int, l ...api.Row) bool {
	t.Helper()
	want, is := ofOf(m, l)
	got, ok := Of(m, l...)
	if !sameOf(got, want) || ok != is || Good(m, got) != is {
		t.Fatalf("Of(%d, %v): %v %v, not %v %v", m, l, got, ok, want, is)
	}
	return is
}

// P9.2: some written out, the chapter's example among them: one row, rows alike, at both ends, sums that do not fit and
// such that do not on the way alone.
func TestOf(t *testing.T) {
	for _, x := range []struct {
		m    int
		l    []api.Row
		want api.Cell
		ok   bool
	}{
		{1, firsts(5, -2), one(2, 3, runs(-2, 1, 5, 1)), true}, {1, firsts(4), one(1, 4, runs(4, 1)), true}, {2, firsts(4), two(1, 4, 0, runs(4, 1), runs(0, 1)), true}, {1, firsts(0), one(1, 0, runs(0, 1)), true},
		{1, firsts(7, 7, 7), one(3, 21, runs(7, 3)), true}, {2, []api.Row{row(5, 9), row(-2, 9)}, two(2, 3, 18, runs(-2, 1, 5, 1), runs(9, 2)), true}, {1, []api.Row{row(5, 9), row(-2, 9)}, one(2, 3, runs(-2, 1, 5, 1)), true},
		{1, firsts(low), one(1, low, runs(low, 1)), true}, {1, firsts(top), one(1, top, runs(top, 1)), true}, {2, []api.Row{row(top, low)}, two(1, top, low, runs(top, 1), runs(low, 1)), true}, {1, firsts(top, low), one(2, -1, runs(low, 1, top, 1)), true},
		{1, firsts(top, 1), api.Cell{}, false}, {1, firsts(1, top), api.Cell{}, false}, {1, firsts(low, -1), api.Cell{}, false}, {1, firsts(top, top), api.Cell{}, false}, {1, firsts(low, low), api.Cell{}, false}, {1, firsts(top-1, 1), one(2, top, runs(1, 1, top-1, 1)), true}, {1, firsts(low+1, -1), one(2, low, runs(low+1, 1, -1, 1)), true},
		{1, firsts(top, 1, -1), one(3, top, runs(-1, 1, 1, 1, top, 1)), true}, {1, firsts(low, -1, 1), one(3, low, runs(low, 1, -1, 1, 1, 1)), true}, {1, firsts(top, top, low, low), one(4, -2, runs(low, 2, top, 2)), true}, {1, firsts(low, low, top), api.Cell{}, false},
		{2, []api.Row{row(0, top), row(0, 1)}, api.Cell{}, false}, {1, []api.Row{row(0, top), row(0, 1)}, one(2, 0, runs(0, 2)), true}, {2, []api.Row{row(low, 0), row(-1, 0)}, api.Cell{}, false}, {2, []api.Row{row(0, top), row(0, 1), row(2, -1)}, two(3, 2, top, runs(0, 2, 2, 1), runs(-1, 1, 1, 1, top, 1)), true},
		{1, nil, api.Cell{}, false}, {2, nil, api.Cell{}, false}, {1, []api.Row{}, api.Cell{}, false}, {2, []api.Row{{}}, two(1, 0, 0, runs(0, 1), runs(0, 1)), true},
	} {
		if got, ok := Of(x.m, x.l...); !sameOf(got, x.want) || ok != x.ok {
			t.Errorf("Of(%d, %v): %v %v, not %v %v", x.m, x.l, got, ok, x.want, x.ok)
		}
	}
	if c, ok := Of(1); !zero(c) || ok {
		t.Errorf("Of no rows: %v %v", c, ok)
	}
}

// P9.2: the example, and its line.
func TestExample(t *testing.T) {
	c, ok := Of(1, firsts(5, -2)...)
	l := Line(1, api.Coord{1}, c)
	if !ok || c.N != 2 || c.Sum[0] != 3 || l.Min[0] != -2 || l.Max[0] != 5 {
		t.Errorf("%v %v, and its line %v", c, ok, l)
	}
}

// P9.2: no cell is told of an m that is none.
func TestOfNoMeasures(t *testing.T) {
	for _, m := range noMeasures() {
		for _, l := range [][]api.Row{nil, firsts(0), firsts(1, 2), {row(1, 2), row(3, 4)}} {
			if c, ok := Of(m, l...); !zero(c) || ok {
				t.Errorf("Of(%d, %v): %v %v", m, l, c, ok)
			}
		}
	}
}

// some: rows of a few measures, at places of their own.
func some() []api.Row {
	var all []api.Row
	for i, first := range []int64{low, -1, 3, top} {
		for j, second := range []int64{low, 0, 1, top} {
			all = append(all, api.Row{At: api.Coord{uint8(i), uint8(j)}, M: [api.MaxMeasures]int64{first, second}})
		}
	}
	return all
}

// lists: all lists of that many of these rows, in each order.
func lists(size int, rows []api.Row) [][]api.Row {
	all := [][]api.Row{nil}
	for range size {
		var longer [][]api.Row
		for _, l := range all {
			for _, r := range rows {
				longer = append(longer, append(slices.Clone(l), r))
			}
		}
		all = longer
	}
	return all
}

// P9.2: all lists of up to three rows; of more of some whose sums leave an int64 and come back.
func TestOfAll(t *testing.T) {
	fits, beyond := 0, 0
	hold := func(l []api.Row) {
		for _, m := range measures() {
			if holdOf(t, m, l...) {
				fits++
			} else {
				beyond++
			}
		}
	}
	for size := range 4 {
		for _, l := range lists(size, some()) {
			hold(l)
		}
	}
	for size := range 6 {
		for _, l := range lists(size, []api.Row{row(top, 1), row(low, top), row(-1, low), row(1, 0)}) {
			hold(l)
		}
	}
	if fits < 1000 || beyond < 1000 {
		t.Errorf("%d fit, %d do not", fits, beyond)
	}
}

// P9.2: the places of rows are nothing to their cell.
func TestOfWhateverThePlaces(t *testing.T) {
	for _, l := range lists(2, some()) {
		other := slices.Clone(l)
		for i := range other {
			other[i].At = api.Coord{uint8(200 * i), 255, 7, uint8(i)}
		}
		for _, m := range measures() {
			want, is := Of(m, l...)
			if got, ok := Of(m, other...); !sameOf(got, want) || ok != is {
				t.Fatalf("Of(%d, %v): %v %v, at other places %v %v", m, l, want, is, got, ok)
			}
		}
	}
}

// P9.2: many rows, of few values and of many.
func TestOfMany(t *testing.T) {
	for _, kinds := range []int64{1, 3, 50, 1000} {
		var l []api.Row
		for i := range int64(600) {
			l = append(l, row(i*7919%kinds-kinds/2, (i%kinds)<<40))
		}
		for _, m := range measures() {
			if !holdOf(t, m, l...) {
				t.Errorf("Of %d rows of %d kinds is none", len(l), kinds)
			}
		}
	}
}

// joinOf: what the chapter says of Join, value by value.
func joinOf(m int, a, b api.Cell) (api.Cell, bool) {
	if !goodOf(m, a) || !goodOf(m, b) {
		return api.Cell{}, false
	}
	c := api.Cell{N: a.N + b.N}
	for i := range m {
		times := map[int64]int64{}
		for _, r := range slices.Concat(a.Bags[i], b.Bags[i]) {
			times[r.V] += r.N
		}
		for v, n := range times {
			c.Bags[i] = append(c.Bags[i], api.Run{V: v, N: n})
		}
		slices.SortFunc(c.Bags[i], func(x, y api.Run) int { return big.NewInt(x.V).Cmp(big.NewInt(y.V)) })
		c.Sum[i] = a.Sum[i] + b.Sum[i]
	}
	// A sum that went round is not its bag's.
	if !goodOf(m, c) {
		return api.Cell{}, false
	}
	return c, true
}

// holdJoin: Join tells what the chapter says, either way round.
func holdJoin(t *testing.T, m int, a, b api.Cell) bool {
	t.Helper()
	want, is := joinOf(m, a, b)
	for _, pair := range [][2]api.Cell{{a, b}, {b, a}} {
		got, ok := Join(m, pair[0], pair[1])
		if !sameOf(got, want) || ok != is || Good(m, got) != is {
			t.Fatalf("Join(%d, %v, %v): %v %v, not %v %v", m, pair[0], pair[1], got, ok, want, is)
		}
	}
	return is
}

// P9.2: some written out, each either way round: just MaxCount and one more, the last int64 and one beyond.
func TestJoin(t *testing.T) {
	for _, x := range []struct {
		m          int
		a, b, want api.Cell
		ok         bool
	}{
		{1, one(1, 5, runs(5, 1)), one(1, -2, runs(-2, 1)), one(2, 3, runs(-2, 1, 5, 1)), true}, {1, one(2, 10, runs(5, 2)), one(1, 5, runs(5, 1)), one(3, 15, runs(5, 3)), true},
		{2, two(2, 3, 18, runs(-2, 1, 5, 1), runs(9, 2)), two(2, 12, 1, runs(5, 1, 7, 1), runs(0, 1, 1, 1)), two(4, 15, 19, runs(-2, 1, 5, 2, 7, 1), runs(0, 1, 1, 1, 9, 2)), true},
		{1, one(most-1, 0, runs(0, most-1)), one(1, 1, runs(1, 1)), one(most, 1, runs(0, most-1, 1, 1)), true}, {1, one(most-1, 0, runs(0, most-1)), one(2, 2, runs(1, 2)), api.Cell{}, false}, {1, one(most/2, 0, runs(0, most/2)), one(most/2, 0, runs(0, most/2)), one(most, 0, runs(0, most)), true},
		{1, one(most, 0, runs(0, most)), one(1, 0, runs(0, 1)), api.Cell{}, false}, {1, one(most, 0, runs(0, most)), one(most, 0, runs(0, most)), api.Cell{}, false}, {2, two(most-1, 0, 1-most, runs(0, most-1), runs(-1, most-1)), two(1, 3, 1, runs(3, 1), runs(1, 1)), two(most, 3, 2-most, runs(0, most-1, 3, 1), runs(-1, most-1, 1, 1)), true},
		{1, one(1, top-1, runs(top-1, 1)), one(1, 1, runs(1, 1)), one(2, top, runs(1, 1, top-1, 1)), true}, {1, one(1, top, runs(top, 1)), one(1, 1, runs(1, 1)), api.Cell{}, false}, {1, one(1, top, runs(top, 1)), one(1, 0, runs(0, 1)), one(2, top, runs(0, 1, top, 1)), true}, {1, one(1, top, runs(top, 1)), one(1, top, runs(top, 1)), api.Cell{}, false},
		{1, one(1, low+1, runs(low+1, 1)), one(1, -1, runs(-1, 1)), one(2, low, runs(low+1, 1, -1, 1)), true}, {1, one(1, low, runs(low, 1)), one(1, -1, runs(-1, 1)), api.Cell{}, false}, {1, one(1, low, runs(low, 1)), one(1, low, runs(low, 1)), api.Cell{}, false}, {1, one(1, low, runs(low, 1)), one(1, top, runs(top, 1)), one(2, -1, runs(low, 1, top, 1)), true},
		{2, two(1, 1, top-1, runs(1, 1), runs(top-1, 1)), two(1, 1, 1, runs(1, 1), runs(1, 1)), two(2, 2, top, runs(1, 2), runs(1, 1, top-1, 1)), true}, {2, two(1, 1, top, runs(1, 1), runs(top, 1)), two(1, 1, 1, runs(1, 1), runs(1, 1)), api.Cell{}, false}, {2, two(1, 1, low, runs(1, 1), runs(low, 1)), two(1, 1, -1, runs(1, 1), runs(-1, 1)), api.Cell{}, false}, {2, two(1, top, 1, runs(top, 1), runs(1, 1)), two(1, 1, 1, runs(1, 1), runs(1, 1)), api.Cell{}, false},
		{1, one(1, 4, runs(4, 1)), api.Cell{}, api.Cell{}, false}, {1, api.Cell{}, api.Cell{}, api.Cell{}, false}, {1, one(1, 4, runs(4, 1)), one(1, 5, runs(4, 1)), api.Cell{}, false}, {1, one(1, 4, runs(4, 1)), one(2, 4, runs(4, 1)), api.Cell{}, false}, {1, one(1, 4, runs(4, 1)), two(1, 4, 0, runs(4, 1), runs(0, 1)), api.Cell{}, false}, {2, two(1, 4, 0, runs(4, 1), runs(0, 1)), one(1, 4, runs(4, 1)), api.Cell{}, false}, {2, one(1, 4, runs(4, 1)), one(1, 4, runs(4, 1)), api.Cell{}, false}, {1, one(2, 3, runs(2, 1, 1, 1)), one(2, 3, runs(2, 1, 1, 1)), api.Cell{}, false},
	} {
		for _, pair := range [][2]api.Cell{{x.a, x.b}, {x.b, x.a}} {
			if got, ok := Join(x.m, pair[0], pair[1]); !sameOf(got, x.want) || ok != x.ok {
				t.Errorf("Join(%d, %v, %v): %v %v, not %v %v", x.m, pair[0], pair[1], got, ok, x.want, x.ok)
			}
		}
	}
}

// P9.2: every two that may be, and each of them with each that may not be.
func TestJoinOfAll(t *testing.T) {
	for _, m := range measures() {
		fits, beyond := 0, 0
		for _, a := range goods(m) {
			for _, b := range goods(m) {
				if holdJoin(t, m, a, b) {
					fits++
				} else {
					beyond++
				}
			}
			for _, b := range bads(m) {
				if holdJoin(t, m, a, b) {
					t.Errorf("%v joined with %v, of %d measures", a, b, m)
				}
			}
		}
		if fits < 30 || beyond < 30 {
			t.Errorf("of %d measures %d fit, %d do not", m, fits, beyond)
		}
	}
}

// P9.2: none is told of an m that is none, whatever is joined; nor of two that may not be and would come to one that may.
func TestJoinOfNone(t *testing.T) {
	for _, m := range noMeasures() {
		for _, a := range slices.Concat(goods(1), goods(2), bads(1)[:30]) {
			if c, ok := Join(m, a, a); !zero(c) || ok {
				t.Errorf("Join(%d, %v, itself): %v %v", m, a, c, ok)
			}
		}
	}
	for _, pair := range [][2]api.Cell{{one(1, 4, runs(5, 1)), one(1, 6, runs(5, 1))}, {one(3, 1, runs(1, 1)), one(-1, 1, runs(2, 1))}, {one(0, 0, nil), one(1, 2, runs(2, 1))}, {one(2, 1, runs(1, 1)), one(1, 4, runs(2, 2))}} {
		if c, ok := Join(1, pair[0], pair[1]); !zero(c) || ok {
			t.Errorf("Join(1, %v, %v): %v %v", pair[0], pair[1], c, ok)
		}
	}
}

// holdParts: the cells of the rows ahead of each place and of those from it on, joined, are the cell of all.
func holdParts(t *testing.T, m int, l []api.Row) int {
	t.Helper()
	held := 0
	all, is := Of(m, l...)
	for at := 1; at < len(l); at++ {
		a, first := Of(m, l[:at]...)
		b, second := Of(m, l[at:]...)
		if !first || !second {
			continue
		}
		for _, pair := range [][2]api.Cell{{a, b}, {b, a}} {
			if got, ok := Join(m, pair[0], pair[1]); !sameOf(got, all) || ok != is {
				t.Fatalf("%v and %v, of %d measures: %v %v, not %v %v", l[:at], l[at:], m, got, ok, all, is)
			}
		}
		if is {
			held++
		}
	}
	return held
}

// P9.4: some rows and some more, in each order, parted at each place.
func TestJoinedIsTheCellOfAll(t *testing.T) {
	held := 0
	for _, m := range measures() {
		for size := 2; size < 4; size++ {
			for _, l := range lists(size, some()) {
				held += holdParts(t, m, l)
			}
		}
		for _, l := range lists(5, []api.Row{row(top, 1), row(low, -1), row(-1, low), row(4, 0)}) {
			held += holdParts(t, m, l)
		}
	}
	if held < 2000 {
		t.Errorf("only %d were joined", held)
	}
}

// P9.4: row by row, whichever comes first.
func TestJoinedRowByRow(t *testing.T) {
	l := []api.Row{row(3, -1), row(top-100, 4), row(3, -1), row(-7, 4), row(0, low+50), row(40, 0), row(3, 9)}
	want, _ := ofOf(2, l)
	for range l {
		l = append(l[1:len(l):len(l)], l[0])
		c, ok := Of(2, l[0])
		for _, r := range l[1:] {
			next, _ := Of(2, r)
			var is bool
			c, is = Join(2, c, next)
			ok = ok && is
		}
		if !ok || !sameOf(c, want) {
			t.Fatalf("%v joined row by row: %v %v, not %v", l, c, ok, want)
		}
	}
}
