package cell

import (
	"math"
	"math/big"
	"slices"
	"testing"

	"cuboid/api"
)

const (
	top  = math.MaxInt64
	low  = math.MinInt64
	most = api.MaxCount
)

// bags: what a cell has of each measure.
type bags = [api.MaxMeasures][]api.Run

// runs: a value and how often it is there, by turns.
func runs(l ...int64) []api.Run {
	var b []api.Run
	for pair := range slices.Chunk(l, 2) {
		b = append(b, api.Run{V: pair[0], N: pair[1]})
	}
	return b
}

// one: what is said to be a cell of one measure.
func one(n, sum int64, b []api.Run) api.Cell {
	return api.Cell{N: n, Sum: [api.MaxMeasures]int64{sum}, Bags: bags{b}}
}

// two: what is said to be a cell of two measures.
func two(n, sum, second int64, b, c []api.Run) api.Cell {
	return api.Cell{N: n, Sum: [api.MaxMeasures]int64{sum, second}, Bags: bags{b, c}}
}

// measures: how many a cell may have.
func measures() []int { return []int{1, api.MaxMeasures} }

// noMeasures: how many it may not have; some would be one of those if a bit were lost.
func noMeasures() []int {
	return []int{0, -1, -2, api.MaxMeasures + 1, 5, 1 << 8, 1<<8 + 1, 1<<16 + 2, 1<<32 + 1, 1<<32 + 2, math.MinInt, math.MinInt + 1, math.MaxInt, math.MaxInt - 1}
}

// goods: cells that may be, of m measures: of one row, of many, of MaxCount; of values alike, at both ends of 64 bits,
// and of sums that are none on the way.
func goods(m int) []api.Cell {
	if m == 1 {
		return []api.Cell{
			one(1, 0, runs(0, 1)), one(1, 1, runs(1, 1)), one(1, -1, runs(-1, 1)), one(1, low, runs(low, 1)), one(1, top, runs(top, 1)),
			one(1, top-1, runs(top-1, 1)), one(1, low+1, runs(low+1, 1)), one(2, 3, runs(-2, 1, 5, 1)), one(2, 10, runs(5, 2)), one(3, 8, runs(-2, 1, 5, 2)),
			one(2, -1, runs(low, 1, top, 1)), one(4, -2, runs(low, 2, top, 2)), one(3, top-1, runs(low, 1, top, 2)), one(6, -7, runs(-4, 1, -3, 2, 0, 1, 1, 1, 2, 1)),
			one(most, 0, runs(0, most)), one(most, most-1, runs(0, 1, 1, most-1)), one(most-1, 0, runs(0, most-1)), one(most, low, runs(-1<<23, most)),
			one(most/2, -most/2, runs(-1, most/2)), one(most/2+1, most/2+1, runs(1, most/2+1)),
		}
	}
	return []api.Cell{
		two(1, 0, 0, runs(0, 1), runs(0, 1)), two(1, low, top, runs(low, 1), runs(top, 1)), two(1, -1, 1, runs(-1, 1), runs(1, 1)), two(2, 3, 18, runs(-2, 1, 5, 1), runs(9, 2)),
		two(2, 12, 1, runs(5, 1, 7, 1), runs(0, 1, 1, 1)), two(4, -2, 0, runs(low, 2, top, 2), runs(0, 4)), two(4, 0, -2, runs(-1, 2, 1, 2), runs(low, 2, top, 2)),
		two(most, 0, most, runs(0, most), runs(1, most)), two(most-1, 1-most, 0, runs(-1, most-1), runs(0, most-1)), two(3, 6, -6, runs(1, 1, 2, 1, 3, 1), runs(-3, 1, -2, 1, -1, 1)),
	}
}

// countOf: all N together, by numbers without an end.
func countOf(b []api.Run) *big.Int {
	all := new(big.Int)
	for _, r := range b {
		all.Add(all, big.NewInt(r.N))
	}
	return all
}

// sumOf: all values, each as often as it is there, by numbers without an end.
func sumOf(b []api.Run) *big.Int {
	all := new(big.Int)
	for _, r := range b {
		all.Add(all, new(big.Int).Mul(big.NewInt(r.V), big.NewInt(r.N)))
	}
	return all
}

// bagOf: what the document says of a bag that may be.
func bagOf(b []api.Run) bool {
	for i, r := range b {
		if r.N < 1 || i > 0 && r.V <= b[i-1].V {
			return false
		}
	}
	return countOf(b).Cmp(big.NewInt(most)) <= 0
}

// goodOf: what the chapter says of a cell that may be.
func goodOf(m int, c api.Cell) bool {
	if m < 1 || m > api.MaxMeasures || c.N < 1 || c.N > most {
		return false
	}
	for i := range api.MaxMeasures {
		b, sum := c.Bags[i], big.NewInt(c.Sum[i])
		switch {
		case i >= m && (len(b) > 0 || c.Sum[i] != 0):
			return false
		case i < m && (!bagOf(b) || countOf(b).Cmp(big.NewInt(c.N)) != 0 || sumOf(b).Cmp(sum) != 0):
			return false
		}
	}
	return true
}

// spoiltBags: what is another bag than b, of at least one run, or none.
func spoiltBags(b []api.Run) [][]api.Run {
	backwards := slices.Clone(b)
	slices.Reverse(backwards)
	all := [][]api.Run{nil, {}, b[1:], b[:len(b)-1], slices.Concat(b, b[:1]), slices.Concat(b, b[len(b)-1:]), slices.Concat(b, runs(top, 0)), slices.Concat(runs(low, 0), b)}
	if len(b) > 1 {
		all = append(all, backwards)
	}
	for i := range b {
		for _, by := range []int64{1, -1, low, 1 << 32} {
			v, n := slices.Clone(b), slices.Clone(b)
			v[i].V += by
			n[i].N += by
			all = append(all, v, n)
		}
		// The same values, as often and of the same sum, but one stands in two runs.
		if b[i].N > 1 {
			all = append(all, slices.Concat(b[:i], runs(b[i].V, 1, b[i].V, b[i].N-1), b[i+1:]))
		}
	}
	return all
}

// turned: c with one thing another one, each at a time.
func turned(c api.Cell) []api.Cell {
	var all []api.Cell
	for _, by := range []int64{1, -1, low, 1 << 32, most, -c.N} {
		other := c
		other.N += by
		all = append(all, other)
	}
	for i := range c.Sum {
		for _, by := range []int64{1, -1, low, 1 << 32} {
			other := c
			other.Sum[i] += by
			all = append(all, other)
		}
		spoilt := [][]api.Run{runs(0, 1), runs(0, c.N), runs(1, 0), runs(c.Sum[0], 1)}
		if len(c.Bags[i]) > 0 {
			spoilt = spoiltBags(c.Bags[i])
		}
		for _, b := range spoilt {
			other := c
			other.Bags[i] = b
			all = append(all, other)
		}
	}
	return all
}

// bads: cells that may not be of m measures: some written out, and those that may be with one thing turned.
func bads(m int) []api.Cell {
	all := []api.Cell{
		{}, {N: 1}, {N: low}, {N: top}, one(0, 0, nil), one(0, 0, runs(0, 0)), one(-1, 0, runs(0, -1)), one(0, 0, runs(0, 1, 0, -1)), one(0, 0, runs(-1, 1, 0, -1)),
		one(most+1, 0, runs(0, most+1)), one(most+1, 1, runs(0, most, 1, 1)), one(2*most, 0, runs(-1, most, 1, most)), one(top, 0, runs(0, top)), one(low, 0, runs(0, low)),
		one(2, 0, runs(top, 2)), one(2, -2, runs(top, 2)), one(2, top, runs(top, 2)), one(2, 0, runs(low, 2)), one(2, low, runs(low, 2)), one(most, 0, runs(top, most)), one(most, -most, runs(top, most)),
		one(2, low, runs(1, 1, top, 1)), one(2, top, runs(low, 1, -1, 1)), one(2, 2, runs(1, 1, 1, 1)), one(2, 3, runs(2, 1, 1, 1)), one(1, 0, nil), one(1, 0, []api.Run{}), one(2, 1, runs(0, 1, 1, 0)),
		one(0, 0, runs(1, 1<<62, 2, 1<<62, 3, 1<<62, 4, 1<<62)), one(1, 1, runs(1, 1<<62, 2, 1<<62, 3, 1<<62, 4, 1<<62, 5, 1)),
		two(2, 3, 0, runs(-2, 1, 5, 1), runs(0, 1)), two(1, 3, 0, runs(3, 1), runs(0, 2)), two(2, 2, 0, runs(1, 2), runs(top, 2)), two(2, 2, -2, runs(1, 2), runs(top, 2)), two(2, 2, 2, nil, runs(1, 2)), two(2, 0, 2, runs(0, 2), runs(1, 1, 1, 1)),
	}
	for _, c := range goods(m) {
		all = append(all, turned(c)...)
	}
	for _, other := range measures() {
		if other != m {
			all = append(all, goods(other)...)
		}
	}
	return all
}

// P9.1: cells of one measure and of each more, and what is none.
func TestGood(t *testing.T) {
	for _, m := range measures() {
		for _, c := range goods(m) {
			if !goodOf(m, c) || !Good(m, c) {
				t.Errorf("%v may not be, of %d measures", c, m)
			}
		}
		for _, c := range bads(m) {
			if goodOf(m, c) || Good(m, c) {
				t.Errorf("%v may be, of %d measures", c, m)
			}
		}
	}
}

// P9.1: of an m that is none no cell may be.
func TestGoodOfNoMeasures(t *testing.T) {
	for _, m := range noMeasures() {
		for _, c := range slices.Concat(goods(1), goods(2), bads(1), bads(2)) {
			if Good(m, c) {
				t.Errorf("%v may be, of %d measures", c, m)
			}
		}
	}
}

// P9.1: each number of rows, and each sum, beside all bags of some.
func TestGoodOfAll(t *testing.T) {
	numbers := []int64{low, -2, -1, 0, 1, 2, 3, 4, most, most + 1, top}
	lists := [][]api.Run{nil, runs(0, 1), runs(0, 2), runs(-1, 1, 1, 1), runs(1, 1, -1, 1), runs(1, 0), runs(-1, 2), runs(1, 1, 1, 1), runs(top, 1), runs(top, 2), runs(low, 1, top, 2), runs(0, most), runs(0, most+1)}
	may := 0
	for _, n := range numbers {
		for _, sum := range append(numbers, top-1) {
			for _, b := range lists {
				for _, c := range []api.Cell{one(n, sum, b), two(n, sum, 0, b, runs(0, n)), two(n, 0, sum, runs(0, n), b), two(n, sum, sum, b, b), {N: n, Sum: [2]int64{0, sum}, Bags: bags{nil, b}}} {
					for _, m := range []int{0, 1, 2, 3} {
						want := goodOf(m, c)
						if got := Good(m, c); got != want {
							t.Fatalf("Good(%d, %v): %v", m, c, got)
						}
						if want {
							may++
						}
					}
				}
			}
		}
	}
	if may < 20 {
		t.Errorf("only %d may be", may)
	}
}

// sameOf: what the chapter says of Same.
func sameOf(a, b api.Cell) bool {
	if a.N != b.N {
		return false
	}
	for i := range api.MaxMeasures {
		if a.Sum[i] != b.Sum[i] || !slices.Equal(a.Bags[i], b.Bags[i]) {
			return false
		}
	}
	return true
}

// copied: c in memory of its own.
func copied(c api.Cell) api.Cell {
	for i, b := range c.Bags {
		c.Bags[i] = slices.Clone(b)
	}
	return c
}

// P9.1: cells alike, and with one thing turned, whether they may be or not.
func TestSame(t *testing.T) {
	for _, c := range slices.Concat(goods(1), goods(2), bads(1)[:40], bads(2)[:40]) {
		if !Same(c, copied(c)) {
			t.Errorf("%v is not the same as itself", c)
		}
		for _, other := range turned(c) {
			if want := sameOf(c, other); Same(c, other) != want || Same(other, c) != want {
				t.Errorf("Same(%v, %v) is not %v", c, other, want)
			}
		}
	}
}

// P9.1: some written out: each thing of each measure, the runs' order, nothing and no runs.
func TestSameWrittenOut(t *testing.T) {
	c := two(3, 8, 19, runs(-2, 1, 5, 2), runs(4, 1, 6, 1, 9, 1))
	for _, other := range []api.Cell{
		two(2, 8, 19, c.Bags[0], c.Bags[1]), two(3, 7, 19, c.Bags[0], c.Bags[1]), two(3, 8, 18, c.Bags[0], c.Bags[1]), two(3, 19, 8, c.Bags[0], c.Bags[1]), two(3, 8, 19, c.Bags[1], c.Bags[0]),
		two(3, 8, 19, runs(-3, 1, 5, 2), c.Bags[1]), two(3, 8, 19, runs(-2, 2, 5, 2), c.Bags[1]), two(3, 8, 19, runs(5, 2, -2, 1), c.Bags[1]), two(3, 8, 19, runs(-2, 1), c.Bags[1]), two(3, 8, 19, nil, c.Bags[1]),
		two(3, 8, 19, c.Bags[0], runs(4, 1, 6, 1, 8, 1)), two(3, 8, 19, c.Bags[0], runs(4, 1, 6, 1, 9, 2)), two(3, 8, 19, c.Bags[0], runs(4, 1, 9, 1, 6, 1)), two(3, 8, 19, c.Bags[0], runs(4, 1, 6, 1, 9, 1, 9, 1)), two(3, 8, 19, c.Bags[0], nil), {},
	} {
		if Same(c, other) || Same(other, c) {
			t.Errorf("%v and %v are the same", c, other)
		}
		if !Same(other, copied(other)) {
			t.Errorf("%v is not the same as itself", other)
		}
	}
	if !Same(api.Cell{}, api.Cell{Bags: bags{{}, {}}}) || !Same(one(1, 4, runs(4, 1)), two(1, 4, 0, runs(4, 1), []api.Run{})) {
		t.Error("nil and empty bags are not the same")
	}
}
