package cell

import (
	"math"
	"math/big"
	"testing"

	"cuboid/api"
)

// places: some to tell lines of; Line takes any.
func places() []api.Coord {
	return []api.Coord{{}, {1, 2}, {9}, {0, 0, 0, 7}, {255, 255, 255, 255}}
}

// P9.3: lines of one value, of many, of such below 0, of one measure and of two.
func TestLine(t *testing.T) {
	at := api.Coord{1, 2, 3, 4}
	for _, x := range []struct {
		m    int
		c    api.Cell
		want api.Line
	}{
		{1, one(2, 3, runs(-2, 1, 5, 1)), api.Line{At: at, N: 2, Sum: [2]int64{3}, Min: [2]int64{-2}, Max: [2]int64{5}}},
		{1, one(1, 5, runs(5, 1)), api.Line{At: at, N: 1, Sum: [2]int64{5}, Min: [2]int64{5}, Max: [2]int64{5}}},
		{1, one(3, -18, runs(-9, 1, -5, 1, -4, 1)), api.Line{At: at, N: 3, Sum: [2]int64{-18}, Min: [2]int64{-9}, Max: [2]int64{-4}}},
		{1, one(4, -2, runs(low, 2, top, 2)), api.Line{At: at, N: 4, Sum: [2]int64{-2}, Min: [2]int64{low}, Max: [2]int64{top}}},
		{1, one(most, 0, runs(0, most)), api.Line{At: at, N: most}},
		{2, two(3, 8, 19, runs(-2, 1, 5, 2), runs(4, 1, 6, 1, 9, 1)), api.Line{At: at, N: 3, Sum: [2]int64{8, 19}, Min: [2]int64{-2, 4}, Max: [2]int64{5, 9}}},
		{2, two(1, top, low, runs(top, 1), runs(low, 1)), api.Line{At: at, N: 1, Sum: [2]int64{top, low}, Min: [2]int64{top, low}, Max: [2]int64{top, low}}},
		{2, two(2, -3, 0, runs(-2, 1, -1, 1), runs(0, 2)), api.Line{At: at, N: 2, Sum: [2]int64{-3, 0}, Min: [2]int64{-2, 0}, Max: [2]int64{-1, 0}}},
	} {
		if got := Line(x.m, at, x.c); got != x.want {
			t.Errorf("Line(%d, %v, %v): %v, not %v", x.m, at, x.c, got, x.want)
		}
	}
}

// lineOf: what the chapter says of Line, value by value.
func lineOf(m int, at api.Coord, c api.Cell) api.Line {
	if !goodOf(m, c) {
		return api.Line{}
	}
	l := api.Line{At: at, N: c.N}
	for i := range m {
		l.Sum[i] = sumOf(c.Bags[i]).Int64()
		l.Min[i], l.Max[i] = top, low
		for _, r := range c.Bags[i] {
			l.Min[i], l.Max[i] = min(l.Min[i], r.V), max(l.Max[i], r.V)
		}
	}
	return l
}

// P9.3: cells that may be, at all places; zero of such that may not be, and of an m that is none.
func TestLineOfAll(t *testing.T) {
	for _, at := range places() {
		for _, m := range measures() {
			for _, c := range goods(m) {
				if got, want := Line(m, at, c), lineOf(m, at, c); got != want || got.N == 0 {
					t.Errorf("Line(%d, %v, %v): %v, not %v", m, at, c, got, want)
				}
			}
			for _, c := range bads(m) {
				if got := Line(m, at, c); got != (api.Line{}) {
					t.Errorf("Line(%d, %v, %v): %v", m, at, c, got)
				}
			}
		}
		for _, m := range noMeasures() {
			for _, c := range append(goods(1), goods(2)...) {
				if got := Line(m, at, c); got != (api.Line{}) {
					t.Errorf("Line(%d, %v, %v): %v", m, at, c, got)
				}
			}
		}
	}
}

// valueOf: what a line is held against another one by, or false where fn or the measure is none.
func valueOf(fn, measure int, l api.Line) (*big.Rat, bool) {
	whole := func(v int64) *big.Rat { return new(big.Rat).SetInt64(v) }
	if fn == api.Count {
		return whole(l.N), true
	}
	if measure < 0 || measure > api.MaxMeasures-1 {
		return nil, false
	}
	switch fn {
	case api.Sum:
		return whole(l.Sum[measure]), true
	case api.Min:
		return whole(l.Min[measure]), true
	case api.Max:
		return whole(l.Max[measure]), true
	case api.Avg:
		return big.NewRat(l.Sum[measure], max(l.N, 1)), true
	}
	return nil, false
}

// aheadOf: what the chapter says of Ahead: the greater value first.
func aheadOf(fn, measure int, a, b api.Line) int {
	first, is := valueOf(fn, measure, a)
	second, ok := valueOf(fn, measure, b)
	if !is || !ok {
		return 0
	}
	return second.Cmp(first)
}

// fns: what lines are held against each other by.
func fns() []int { return []int{api.Count, api.Sum, api.Min, api.Max, api.Avg} }

// noFns: numbers that are none of them; some would be one if a bit were lost.
func noFns() []int {
	return []int{0, -1, -5, 6, 7, 1<<8 + 1, 1<<16 + 2, 1<<32 + 1, 1<<32 + 5, math.MinInt, math.MinInt + 1, math.MaxInt}
}

// someMeasures: those that are there, and such that are none.
func someMeasures() []int {
	return []int{0, 1, -1, -2, api.MaxMeasures, api.MaxMeasures + 1, 1 << 8, 1 << 32, 1<<32 + 1, math.MinInt, math.MaxInt}
}

// holdAhead: Ahead tells what the chapter says, either way round.
func holdAhead(t *testing.T, fn, measure int, a, b api.Line) {
	t.Helper()
	want := aheadOf(fn, measure, a, b)
	if got := Ahead(fn, measure, a, b); got != want {
		t.Fatalf("Ahead(%d, %d, %v, %v): %d, not %d", fn, measure, a, b, got, want)
	}
	if got := Ahead(fn, measure, b, a); got != -want {
		t.Fatalf("Ahead(%d, %d, %v, %v): %d, not %d", fn, measure, b, a, got, -want)
	}
}

// P9.3: each fn and each measure has a number of its own in these lines; no other thing of them is looked at.
func TestAhead(t *testing.T) {
	a := api.Line{At: api.Coord{9}, N: 2, Sum: [2]int64{3, 7}, Min: [2]int64{1, 5}, Max: [2]int64{2, 5}}
	b := api.Line{At: api.Coord{1}, N: 3, Sum: [2]int64{4, 7}, Min: [2]int64{0, 6}, Max: [2]int64{2, 4}}
	for _, x := range []struct{ fn, measure, want int }{
		{api.Count, 0, 1}, {api.Count, 1, 1}, {api.Sum, 0, 1}, {api.Sum, 1, 0}, {api.Min, 0, -1}, {api.Min, 1, 1}, {api.Max, 0, 0}, {api.Max, 1, -1}, {api.Avg, 0, -1}, {api.Avg, 1, -1},
		{api.Count, -1, 1}, {api.Count, api.MaxMeasures, 1}, {api.Count, math.MinInt, 1}, {api.Count, math.MaxInt, 1}, {api.Sum, -1, 0}, {api.Sum, api.MaxMeasures, 0}, {api.Min, math.MinInt, 0}, {api.Max, math.MaxInt, 0}, {api.Avg, -1, 0}, {api.Avg, api.MaxMeasures, 0}, {api.Avg, math.MinInt, 0},
		{0, 0, 0}, {6, 0, 0}, {-1, 1, 0}, {math.MaxInt, 0, 0}, {math.MinInt, 1, 0},
	} {
		if got := Ahead(x.fn, x.measure, a, b); got != x.want {
			t.Errorf("Ahead(%d, %d): %d, not %d", x.fn, x.measure, got, x.want)
		}
		if got := Ahead(x.fn, x.measure, b, a); got != -x.want {
			t.Errorf("Ahead(%d, %d), turned: %d, not %d", x.fn, x.measure, got, -x.want)
		}
	}
}

// P9.3: averages written out: the example, such as a float can't tell apart, below 0, of an N below 1, at both ends.
func TestAheadOfAverages(t *testing.T) {
	for _, x := range []struct {
		sum, n, other, of int64
		want              int
	}{
		{3, 2, 4, 3, -1}, {6, 4, 3, 2, 0}, {0, 7, 0, 1, 0}, {1, 3, 2, 6, 0}, {1, 2, 1, 3, -1}, {-1, 2, -1, 3, 1}, {-3, 2, -4, 3, 1}, {-1, 5, 1, 5, 1}, {-6, 4, -3, 2, 0}, {-7, 2, -3, 1, 1},
		{top, 1, top - 1, 1, -1}, {low, 1, low + 1, 1, 1}, {top, 2, top - 1, 2, -1}, {1<<53 + 1, 1, 1 << 53, 1, -1}, {top, 3, top - 1, 3, -1}, {top - 1, top, 1, 1, 1}, {top, top, 1, 1, 0}, {top - 1, top, top - 2, top - 1, -1}, {1 << 60, 1<<60 - 1, 1<<60 - 1, 1<<60 - 2, 1}, {-1<<60 - 1, 3, -1 << 60, 3, 1}, {1, top, 1, top - 1, 1}, {-1, top, -1, top - 1, -1},
		{top, 2, top, 3, -1}, {low, 2, low, 3, 1}, {low, 1, top, top, 1}, {low, most, low, most - 1, -1}, {low, top, -1, 1, 1}, {low, 1, top, 1, 1}, {low, 2, low / 2, 1, 0}, {top, most, top, most - 1, 1},
		{5, 0, 4, 1, -1}, {5, 0, 5, 1, 0}, {5, -3, 5, 1, 0}, {5, -3, 5, 0, 0}, {5, low, 6, 1, 1}, {5, low, 5, low, 0}, {-5, -2, -5, 2, 1}, {-5, low, 5, low, 1}, {4, -1, 9, 2, 1}, {low, low, top, low, 1}, {0, low, 0, top, 0}, {top, low, top, 1, 0}, {low, 0, low, 1, 0},
	} {
		for measure := range api.MaxMeasures {
			a, b := api.Line{N: x.n}, api.Line{N: x.of}
			a.Sum[measure], b.Sum[measure] = x.sum, x.other
			if got := Ahead(api.Avg, measure, a, b); got != x.want {
				t.Errorf("%d of %d against %d of %d: %d, not %d", x.sum, x.n, x.other, x.of, got, x.want)
			}
			if got := Ahead(api.Avg, measure, b, a); got != -x.want {
				t.Errorf("%d of %d against %d of %d: %d, not %d", x.other, x.of, x.sum, x.n, got, -x.want)
			}
		}
	}
}

// lines: all pairs of a number of rows and a sum, each with other numbers beside them.
func lines() []api.Line {
	numbers := []int64{low, low + 1, -2, -1, 0, 1, 2, 3, most, top - 1, top}
	var all []api.Line
	for i, n := range numbers {
		for j, sum := range numbers {
			turn := func(by int) int64 { return numbers[(i+2*j+by)%len(numbers)] }
			all = append(all, api.Line{At: api.Coord{uint8(i), uint8(j)}, N: n, Sum: [2]int64{sum, turn(1)}, Min: [2]int64{turn(2), turn(3)}, Max: [2]int64{turn(4), turn(5)}})
		}
	}
	return all
}

// P9.3: every two of the lines, by each fn and each measure.
func TestAheadOfAll(t *testing.T) {
	for _, a := range lines() {
		for _, b := range lines() {
			for _, fn := range fns() {
				for measure := range api.MaxMeasures {
					holdAhead(t, fn, measure, a, b)
				}
			}
		}
	}
}

// P9.3: 0 of an fn that is none; of a measure that is none, but of Count, which does not ask for it.
func TestAheadOfNone(t *testing.T) {
	all := lines()
	for i, a := range all[1:] {
		b := all[i]
		for _, measure := range someMeasures() {
			for _, fn := range fns() {
				holdAhead(t, fn, measure, a, b)
			}
			for _, fn := range noFns() {
				if got := Ahead(fn, measure, a, b); got != 0 {
					t.Errorf("Ahead(%d, %d, %v, %v): %d", fn, measure, a, b, got)
				}
			}
		}
	}
}

// P9.3: the lines of cells, by what they are told of.
func TestAheadOfCells(t *testing.T) {
	for _, m := range measures() {
		for _, a := range goods(m) {
			for _, b := range goods(m) {
				for _, fn := range fns() {
					for measure := range api.MaxMeasures {
						holdAhead(t, fn, measure, Line(m, api.Coord{1}, a), Line(m, api.Coord{2}, b))
					}
				}
			}
		}
	}
}
