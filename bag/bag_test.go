package bag

import (
	"math"
	"math/big"
	"slices"
	"testing"

	"cuboid/api"
)

const (
	top  = math.MaxInt64
	low  = math.MinInt64
	most = api.MaxCount
)

// of: runs of a value and how often it is there, by turns.
func of(l ...int64) []api.Run {
	var b []api.Run
	for pair := range slices.Chunk(l, 2) {
		b = append(b, api.Run{V: pair[0], N: pair[1]})
	}
	return b
}

// goods: bags of nothing, of one value, of many; next to each other and at both ends of 64 bits; of few and of MaxCount.
func goods() [][]api.Run {
	return [][]api.Run{
		nil, {}, of(0, 1), of(1, 1), of(-1, 3), of(7, 2), of(low, 1), of(top, 1), of(low, most), of(top, most), of(0, most),
		of(0, 1, 1, 1), of(-1, 1, 0, 1, 1, 1), of(1, 1, 3, 2), of(low, 1, low+1, 1), of(top-1, 2, top, 2), of(low, 4, top, 4),
		of(low, 1, -1, 1, 0, 1, 1, 1, top, 1), of(-9, 2, -7, 1, -5, 4, -3, 2, -1, 1), of(-8, 1, -1, 5, 2, 2, 7, 3, 40, 1, 41, 1),
		of(5, most-1, 6, 1), of(5, 1, 6, most-1), of(low, most/2, top, most/2), of(-2, most/4, -1, most/4, 1, most/4, 2, most/4),
		of(1<<32, 1<<32, 1<<33, 1<<33), of(-1<<32, 3, 1<<22, 5, 1<<44, 7),
	}
}

// bads: runs that are no bag, most of which differ from one in one thing alone.
func bads() [][]api.Run {
	return [][]api.Run{
		of(1, 1, 1, 1), of(0, 1, 0, 2), of(2, 1, 1, 1), of(1, 1, 3, 1, 2, 1), of(1, 1, 3, 1, 3, 1), of(5, 1, 1, 1, 2, 1), of(low, 1, top, 1, low, 1),
		of(top, 1, low, 1), of(top, 1, top, 1), of(low, 1, low, 1), of(0, 1, -1, 1), of(-1, 1, -2, 1), of(1, 2, 2, 2, 1, 2),
		of(1, 0), of(0, 0), of(1, -1), of(1, low), of(1, 1, 2, 0), of(1, 0, 2, 1), of(1, 1, 2, 0, 3, 1), of(1, 2, 2, -1), of(0, -1, 1, 2), of(1, 1, 2, low), of(1, low, 2, top),
		of(1, most+1), of(1, most, 2, 1), of(1, 1, 2, most), of(1, most-1, 2, 1, 3, 1), of(1, most, 2, most), of(1, most/2, 2, most/2, 3, 1),
		of(1, top), of(1, top, 2, 1), of(1, 1, 2, top), of(1, top, 2, top), of(1, top, 2, top, 3, 2), of(1, top, 2, top, 3, 3), of(1, top, 2, 1, 3, low), of(1, most, 2, top, 3, low+1),
		of(1, 1<<62, 2, 1<<62), of(1, 1<<62, 2, 1<<62, 3, 1<<62, 4, 1<<62), of(1, 1<<62, 2, 1<<62, 3, 1<<62, 4, 1<<62, 5, 1),
	}
}

// countOf: all N together, by numbers without an end.
func countOf(b []api.Run) *big.Int {
	all := new(big.Int)
	for _, r := range b {
		all.Add(all, big.NewInt(r.N))
	}
	return all
}

// goodOf: what the chapter says of a bag that may be.
func goodOf(b []api.Run) bool {
	for i, r := range b {
		if r.N < 1 || i > 0 && r.V <= b[i-1].V {
			return false
		}
	}
	return countOf(b).Cmp(big.NewInt(most)) <= 0
}

// P8.1: bags, and what is none: V that fall or stand twice, an N below 1, more than MaxCount, sums that would go round.
func TestGood(t *testing.T) {
	for _, b := range goods() {
		if !goodOf(b) || !Good(b) {
			t.Errorf("%v may not be", b)
		}
	}
	for _, b := range bads() {
		if goodOf(b) || Good(b) {
			t.Errorf("%v may be", b)
		}
	}
}

// P8.1: all lists of up to three runs of some values and some numbers.
func TestGoodOfAll(t *testing.T) {
	var runs []api.Run
	for _, v := range []int64{low, -1, 0, 1, top} {
		for _, n := range []int64{low, -1, 0, 1, 2, most / 2, most - 1, most, most + 1, 1 << 62, top} {
			runs = append(runs, api.Run{V: v, N: n})
		}
	}
	for _, x := range runs {
		for _, y := range runs {
			for _, b := range [][]api.Run{{x}, {x, y}, {x, y, {V: 5, N: 1}}, {{V: -5, N: most - 2}, x, y}} {
				if got := Good(b); got != goodOf(b) {
					t.Fatalf("Good(%v): %v", b, got)
				}
			}
		}
	}
}

// P8.1: all N together; 0 of nothing, and of what may not be.
func TestCount(t *testing.T) {
	for _, b := range goods() {
		if got := Count(b); big.NewInt(got).Cmp(countOf(b)) != 0 {
			t.Errorf("Count(%v): %d", b, got)
		}
	}
	for _, b := range bads() {
		if got := Count(b); got != 0 {
			t.Errorf("Count(%v): %d", b, got)
		}
	}
	for _, x := range []struct {
		b    []api.Run
		want int64
	}{{nil, 0}, {of(4, 1), 1}, {of(1, 1, 3, 2), 3}, {of(5, most), most}, {of(5, most-1, 6, 1), most}, {of(5, most, 6, 1), 0}} {
		if got := Count(x.b); got != x.want {
			t.Errorf("Count(%v): %d, not %d", x.b, got, x.want)
		}
	}
}

// asked: values to ask b for: those that are there, those beside them, and both ends.
func asked(b []api.Run) []int64 {
	l := []int64{low, low + 1, -1, 0, 1, top - 1, top}
	for _, r := range b {
		l = append(l, r.V-1, r.V, r.V+1)
	}
	return l
}

// hasOf: what the chapter says of Has, of a good b.
func hasOf(b []api.Run, v int64) int64 {
	var n int64
	for _, r := range b {
		if r.V == v {
			n = r.N
		}
	}
	return n
}

// P8.1: values that are there, between, ahead and behind; 0 of what may not be, whatever stands there.
func TestHas(t *testing.T) {
	for _, b := range goods() {
		for _, v := range asked(b) {
			if got, want := Has(b, v), hasOf(b, v); got != want {
				t.Errorf("Has(%v, %d): %d, not %d", b, v, got, want)
			}
		}
	}
	for _, b := range bads() {
		for _, v := range asked(b) {
			if got := Has(b, v); got != 0 {
				t.Errorf("Has(%v, %d): %d", b, v, got)
			}
		}
	}
}

// P8.1: every value of a bag of many, and every one that is not there.
func TestHasOfMany(t *testing.T) {
	for size := range int64(70) {
		var b []api.Run
		for i := range size {
			b = append(b, api.Run{V: 3*i - 50, N: i + 1})
		}
		for v := int64(-60); v < 170; v++ {
			if got, want := Has(b, v), hasOf(b, v); got != want {
				t.Fatalf("Has(%v, %d): %d, not %d", b, v, got, want)
			}
		}
	}
}

// ofOf: what the chapter says of Of: the values that are there, rising, each with how often it stands in l.
func ofOf(l []int64) []api.Run {
	times := map[int64]int64{}
	for _, v := range l {
		times[v]++
	}
	var b []api.Run
	for v, n := range times {
		b = append(b, api.Run{V: v, N: n})
	}
	slices.SortFunc(b, func(x, y api.Run) int { return big.NewInt(x.V).Cmp(big.NewInt(y.V)) })
	return b
}

func holdOf(t *testing.T, l ...int64) {
	t.Helper()
	if got, want := Of(l...), ofOf(l); !slices.Equal(got, want) || !Good(got) || Count(got) != int64(len(l)) {
		t.Fatalf("Of(%v): %v, not %v", l, got, want)
	}
}

// P8.1: some written out, the chapter's example among them.
func TestOf(t *testing.T) {
	for _, x := range []struct {
		l    []int64
		want []api.Run
	}{
		{nil, nil}, {[]int64{}, nil}, {[]int64{0}, of(0, 1)}, {[]int64{3, 1, 3}, of(1, 1, 3, 2)}, {[]int64{5, 5, 5, 5}, of(5, 4)},
		{[]int64{top, low, top, low, low}, of(low, 3, top, 2)}, {[]int64{1, -1, 0}, of(-1, 1, 0, 1, 1, 1)}, {[]int64{-1, -2, -1}, of(-2, 1, -1, 2)},
		{[]int64{top, top - 1, low + 1, low}, of(low, 1, low+1, 1, top-1, 1, top, 1)}, {[]int64{1, 2, 3, 2, 1}, of(1, 2, 2, 2, 3, 1)},
	} {
		if got := Of(x.l...); !slices.Equal(got, x.want) {
			t.Errorf("Of(%v): %v, not %v", x.l, got, x.want)
		}
	}
	if got := Of(); len(got) != 0 {
		t.Errorf("Of no values: %v", got)
	}
}

// P8.1: all lists of a few values, up to some length; so each order of them too.
func TestOfAll(t *testing.T) {
	lists := [][]int64{nil}
	for range 6 {
		var longer [][]int64
		for _, l := range lists {
			for _, v := range []int64{low, -1, 0, top} {
				longer = append(longer, append(slices.Clone(l), v))
			}
		}
		lists = longer
		for _, l := range lists {
			holdOf(t, l...)
		}
	}
}

// P8.1: more values than are sorted one by one, in an order of their own, rising and falling.
func TestOfMany(t *testing.T) {
	for _, kinds := range []int64{1, 2, 7, 100, 5000} {
		var l []int64
		for i := range int64(4000) {
			l = append(l, i*7919%4001%kinds-kinds/2)
		}
		holdOf(t, l...)
		slices.Sort(l)
		holdOf(t, l...)
		slices.Reverse(l)
		holdOf(t, l...)
	}
}

// sameOf: what the chapter says of Same.
func sameOf(a, b []api.Run) bool {
	if len(a) != len(b) {
		return false
	}
	for i := range a {
		if a[i].V != b[i].V || a[i].N != b[i].N {
			return false
		}
	}
	return true
}

// P8.1: runs alike, of another V, another N, another order, one more, one fewer; such that may not be too.
func TestSame(t *testing.T) {
	all := slices.Concat(goods(), bads())
	for _, a := range all {
		for _, b := range all {
			if got := Same(a, b); got != sameOf(a, b) {
				t.Errorf("Same(%v, %v): %v", a, b, got)
			}
		}
		if !Same(a, slices.Clone(a)) {
			t.Errorf("%v is not the same as itself", a)
		}
		for i := range a {
			v, n := slices.Clone(a), slices.Clone(a)
			v[i].V++
			n[i].N++
			for _, b := range [][]api.Run{v, n, a[:i], append(slices.Clone(a), a[i])} {
				if Same(a, b) || Same(b, a) {
					t.Errorf("%v and %v are the same", a, b)
				}
			}
		}
	}
	if Same(of(1, 1, 2, 1), of(2, 1, 1, 1)) || !Same(of(2, 0, 1, -1), of(2, 0, 1, -1)) || !Same(nil, []api.Run{}) || Same(nil, of(0, 0)) || Same(of(1, 2), of(2, 1)) {
		t.Error("Same of another order, of such that may not be, of nothing")
	}
}
