package delta

import (
	"math"
	"math/big"
	"slices"
	"testing"

	"cuboid/api"
	"cuboid/bag"
)

const (
	top  = math.MaxInt64
	low  = math.MinInt64
	most = api.MaxCount
)

// runs: a value and how often it is there, by turns.
func runs(l ...int64) []api.Run {
	var b []api.Run
	for pair := range slices.Chunk(l, 2) {
		b = append(b, api.Run{V: pair[0], N: pair[1]})
	}
	return b
}

// one: what is said to be a delta of one measure.
func one(n, sum int64, in, out []api.Run) api.Delta {
	return api.Delta{N: n, Sum: [api.MaxMeasures]int64{sum}, In: bags{in}, Out: bags{out}}
}

// two: what is said to be a delta of two measures, put together of two of one.
func two(a, b api.Delta) api.Delta {
	return api.Delta{N: a.N, Sum: [api.MaxMeasures]int64{a.Sum[0], b.Sum[0]}, In: bags{a.In[0], b.In[0]}, Out: bags{a.Out[0], b.Out[0]}}
}

// measures: how many a delta may have.
func measures() []int { return []int{1, api.MaxMeasures} }

// noMeasures: how many it may not have; some would be one of those if a bit were lost.
func noMeasures() []int {
	return []int{0, -1, -2, api.MaxMeasures + 1, 5, 1 << 8, 1<<8 + 1, 1<<16 + 2, 1<<32 + 1, 1<<32 + 2, math.MinInt, math.MinInt + 1, math.MaxInt, math.MaxInt - 1}
}

// goods: deltas that may be, of m measures: of nothing, of rows that come, that go, of both; of values at both ends of
// 64 bits; of MaxCount; of sums of In, of Out, of each of the two, that are no int64.
func goods(m int) []api.Delta {
	if m == 1 {
		return []api.Delta{
			{}, one(1, 5, runs(5, 1), nil), one(-1, -5, nil, runs(5, 1)), one(0, 2, runs(5, 1), runs(3, 1)), one(0, -2, runs(3, 1), runs(5, 1)), one(2, 10, runs(5, 2), nil), one(-2, -10, nil, runs(5, 2)), one(1, 0, runs(0, 1), nil), one(-1, 0, nil, runs(0, 1)),
			one(0, 0, runs(-1, 1, 1, 1), runs(0, 2)), one(0, 0, runs(0, 2), runs(-1, 1, 1, 1)), one(1, 7, runs(-2, 1, 5, 2), runs(-3, 1, 4, 1)), one(-1, -6, runs(4, 1), runs(3, 1, 7, 1)), one(3, 2, runs(-1, 2, 2, 2), runs(0, 1)),
			one(1, top, runs(top, 1), nil), one(-1, -top, nil, runs(top, 1)), one(1, low, runs(low, 1), nil), one(-1, top, nil, runs(-top, 1)), one(0, top, runs(-1, 1), runs(low, 1)), one(0, -top, runs(0, 1), runs(top, 1)), one(0, low, runs(-1, 1), runs(top, 1)), one(0, low, runs(low, 1), runs(0, 1)),
			one(1, top-1, runs(1, 1, top, 1), runs(2, 1)), one(1, low+1, runs(low, 1, -1, 1), runs(-2, 1)), one(-1, top-1, runs(-3, 1), runs(low, 1, -1, 1)), one(-1, low+2, runs(2, 1), runs(1, 1, top, 1)), one(0, 2, runs(top, 2), runs(top-1, 2)), one(0, -2, runs(low, 2), runs(low+1, 2)), one(0, most, runs(top, most), runs(top-1, most)), one(0, -most, runs(low, most), runs(low+1, most)),
			one(most, 0, runs(0, most), nil), one(-most, 0, nil, runs(0, most)), one(most, low, runs(-1<<23, most), nil), one(0, most, runs(1, most), runs(0, most)), one(0, -most, runs(0, most), runs(1, most)), one(most-1, -1, runs(0, most), runs(1, 1)), one(1-most, 1, runs(1, 1), runs(0, most)), one(most/2, most/2, runs(1, most/2), nil), one(-most/2-1, 0, nil, runs(0, most/2+1)),
		}
	}
	all := []api.Delta{
		two(one(1, 5, runs(5, 1), nil), one(1, -3, runs(1, 1, 2, 1), runs(6, 1))), two(one(-1, -4, runs(4, 1), runs(3, 1, 5, 1)), one(-1, top, nil, runs(-top, 1))), two(one(0, 0, nil, nil), one(0, 1, runs(4, 1), runs(3, 1))), two(one(0, 1, runs(4, 1), runs(3, 1)), one(0, 0, nil, nil)),
		two(one(most, 0, runs(0, most), nil), one(most, most, runs(1, most), nil)), two(one(1, low, runs(low, 1), nil), one(1, top, runs(top, 1), nil)), two(one(1, top, runs(top, 1), nil), one(1, low, runs(low, 1), nil)),
	}
	for _, d := range goods(1) {
		all = append(all, two(d, d))
	}
	return all
}

// netOf: what in comes to less what out comes to, by numbers without an end.
func netOf(in, out []api.Run) *big.Int {
	net := new(big.Int)
	for _, r := range in {
		net.Add(net, new(big.Int).Mul(big.NewInt(r.V), big.NewInt(r.N)))
	}
	for _, r := range out {
		net.Sub(net, new(big.Int).Mul(big.NewInt(r.V), big.NewInt(r.N)))
	}
	return net
}

// goodOf: what the chapter says of a delta that may be.
func goodOf(m int, d api.Delta) bool {
	if m < 1 || m > api.MaxMeasures || d.N < -most || d.N > most {
		return false
	}
	for i := range api.MaxMeasures {
		in, out := d.In[i], d.Out[i]
		switch {
		case i >= m && (len(in) > 0 || len(out) > 0 || d.Sum[i] != 0):
			return false
		case i < m && (!bag.Good(in) || !bag.Good(out) || bag.Count(in)-bag.Count(out) != d.N || netOf(in, out).Cmp(big.NewInt(d.Sum[i])) != 0):
			return false
		}
		for _, r := range in {
			if i < m && bag.Has(out, r.V) > 0 {
				return false
			}
		}
	}
	return true
}

// spoiltBags: what is another bag than b, or none.
func spoiltBags(b []api.Run) [][]api.Run {
	if len(b) == 0 {
		return [][]api.Run{runs(0, 1), runs(1, 0), runs(0, most), runs(0, most+1), runs(0, -1), runs(7, 1, 7, -1)}
	}
	backwards := slices.Clone(b)
	slices.Reverse(backwards)
	all := [][]api.Run{nil, {}, b[1:], b[:len(b)-1], slices.Concat(b, b[:1]), slices.Concat(b, b[len(b)-1:]), slices.Concat(b, runs(top, 0)), slices.Concat(runs(low, 0), b)}
	if len(b) > 1 {
		all = append(all, backwards)
	}
	for i := range b {
		for _, by := range []int64{1, -1, low, 1 << 32} {
			v, n := slices.Clone(b), slices.Clone(b)
			v[i].V += by
			n[i].N += by
			all = append(all, v, n)
		}
		// The same values, as often and of the same sum, but one stands in two runs.
		if b[i].N > 1 {
			all = append(all, slices.Concat(b[:i], runs(b[i].V, 1, b[i].V, b[i].N-1), b[i+1:]))
		}
	}
	return all
}

// turned: d with one thing another one, each at a time.
func turned(d api.Delta) []api.Delta {
	var all []api.Delta
	for _, by := range []int64{1, -1, low, 1 << 32, most, -most, 2*most + 1} {
		other := d
		other.N += by
		all = append(all, other)
	}
	for i := range d.Sum {
		for _, by := range []int64{1, -1, low, 1 << 32} {
			other := d
			other.Sum[i] += by
			all = append(all, other)
		}
		for _, b := range spoiltBags(d.In[i]) {
			other := d
			other.In[i] = b
			all = append(all, other)
		}
		for _, b := range spoiltBags(d.Out[i]) {
			other := d
			other.Out[i] = b
			all = append(all, other)
		}
	}
	return all
}

// crossed: d with a value that comes and goes as well, so that neither the number nor the sum tells it.
func crossed(d api.Delta) []api.Delta {
	var all []api.Delta
	for i := range d.In {
		for _, v := range []int64{low, -3, 0, 5, top} {
			in, few := bag.Join(d.In[i], bag.Of(v))
			out, is := bag.Join(d.Out[i], bag.Of(v))
			if few && is {
				other := d
				other.In[i], other.Out[i] = in, out
				all = append(all, other)
			}
		}
	}
	return all
}

// bads: deltas that may not be of m measures: some written out, and those that may be with one thing turned.
func bads(m int) []api.Delta {
	all := []api.Delta{
		{N: 1}, {N: -1}, {N: low}, {N: top}, {N: most}, {N: -most}, one(0, 3, nil, nil), one(0, 0, runs(5, 1), runs(5, 1)), one(1, 5, runs(5, 2), runs(5, 1)), one(-1, -5, runs(5, 1), runs(5, 2)), one(0, 2, runs(3, 1, 5, 1), runs(3, 2)), one(0, 0, runs(0, most), runs(0, most)),
		one(0, 3, runs(5, 1), runs(3, 1)), one(1, 2, runs(5, 1), runs(3, 1)), one(0, -2, runs(5, 1), runs(3, 1)), one(2, 8, runs(5, 1), runs(3, 1)), one(1, 5, nil, runs(5, 1)), one(1, -5, nil, runs(5, 1)), one(-1, 5, nil, runs(5, 1)), one(-1, -5, runs(5, 1), nil),
		one(most+1, 0, runs(0, most+1), nil), one(-most-1, 0, nil, runs(0, most+1)), one(most+1, 1, runs(0, most, 1, 1), nil), one(-most-1, -1, nil, runs(0, most, 1, 1)), one(most, 0, runs(0, most+1), runs(1, 1)), one(most, 1, runs(0, most, 1, 1), runs(2, 1)), one(0, 0, runs(0, most+1), runs(0, most+1)), one(top, 0, runs(0, top), nil), one(low, 0, nil, runs(0, low)),
		one(2, 0, runs(1, 1, top, 1), nil), one(2, low, runs(1, 1, top, 1), nil), one(2, top, runs(1, 1, top, 1), nil), one(-1, low, nil, runs(low, 1)), one(-1, top, nil, runs(low, 1)), one(0, low, runs(0, 1), runs(low, 1)), one(0, low, runs(1, 1), runs(-top, 1)), one(0, top, runs(low, 1), runs(1, 1)), one(0, top, runs(-2, 1), runs(top, 1)),
		one(1, low, runs(top, 2), runs(top-1, 1)), one(1, top, runs(top, 2), runs(top-1, 1)), one(0, -2, runs(top, 1), runs(low+1, 1)), one(0, -1, runs(top, 1), runs(low, 1)), one(0, 1, runs(low, 1), runs(top, 1)), one(0, -most, runs(top, most), runs(low, most)), one(0, most, runs(low, most), runs(top, most)), one(most, -most, runs(top, most), nil), one(-most, most, nil, runs(top, most)), one(most, 0, runs(low, most), nil),
		one(2, 2, runs(1, 1, 1, 1), nil), one(-2, -2, nil, runs(1, 1, 1, 1)), one(2, 3, runs(2, 1, 1, 1), nil), one(-2, -3, nil, runs(2, 1, 1, 1)), one(0, 0, runs(0, 0), nil), one(0, 0, nil, runs(0, 0)), one(0, 0, runs(1, 1, 2, -1), nil), one(-1, 0, runs(0, -1), nil), one(1, 0, nil, runs(0, -1)), one(0, 0, runs(1, 1<<62, 2, 1<<62, 3, 1<<62, 4, 1<<62), nil),
		two(one(1, 5, runs(5, 1), nil), one(2, 6, runs(3, 2), nil)), two(one(2, 6, runs(3, 2), nil), one(1, 5, runs(5, 1), nil)), two(one(0, 1, runs(4, 1), runs(3, 1)), one(1, 2, runs(2, 1), nil)), two(one(0, 0, nil, nil), one(0, 3, nil, nil)), two(one(0, 0, nil, nil), one(0, 0, runs(4, 1), runs(4, 1))),
	}
	for _, d := range goods(m) {
		all = append(all, turned(d)...)
		all = append(all, crossed(d)...)
	}
	return slices.Concat(all, others(m))
}

// others: deltas that may be of another number of measures than m, but not of m.
func others(m int) []api.Delta {
	var all []api.Delta
	for _, other := range measures() {
		for _, d := range goods(other) {
			if !goodOf(m, d) {
				all = append(all, d)
			}
		}
	}
	return all
}

// P10.1: deltas of one measure and of each more, and what is none.
func TestGood(t *testing.T) {
	for _, m := range measures() {
		for _, d := range goods(m) {
			if !goodOf(m, d) || !Good(m, d) {
				t.Errorf("%v may not be, of %d measures", d, m)
			}
		}
		for _, d := range bads(m) {
			if goodOf(m, d) || Good(m, d) {
				t.Errorf("%v may be, of %d measures", d, m)
			}
		}
		if len(others(m)) == 0 {
			t.Errorf("no delta is of other measures than %d", m)
		}
	}
}

// P10.1: of an m that is none no delta may be, nor is one idle.
func TestGoodOfNoMeasures(t *testing.T) {
	for _, m := range noMeasures() {
		for _, d := range slices.Concat(goods(1), goods(2), bads(1), bads(2)) {
			if Good(m, d) || Idle(m, d) {
				t.Errorf("%v may be, of %d measures", d, m)
			}
		}
	}
}

// P10.1: each number of rows, and each sum, beside all bags of some, of one measure and of the second one.
func TestGoodOfAll(t *testing.T) {
	numbers := []int64{low, -most - 1, -most, -2, -1, 0, 1, 2, most, most + 1, top}
	lists := [][]api.Run{nil, runs(0, 1), runs(1, 2), runs(-1, 1, 1, 1), runs(1, 1, -1, 1), runs(1, 0), runs(top, 1), runs(top-1, 2), runs(top, 2), runs(low, 1), runs(low, 1, top, 2), runs(0, most), runs(0, most+1)}
	may := 0
	for _, n := range numbers {
		for _, sum := range append(numbers, top-1, -top) {
			for _, in := range lists {
				for _, out := range lists {
					d := one(n, sum, in, out)
					for _, d := range []api.Delta{d, two(d, d), two(one(n, 0, nil, nil), d)} {
						for m := range api.MaxMeasures + 2 {
							want := goodOf(m, d)
							if got := Good(m, d); got != want {
								t.Fatalf("Good(%d, %v): %v", m, d, got)
							}
							if want {
								may++
							}
						}
					}
				}
			}
		}
	}
	if may < 40 {
		t.Errorf("only %d may be", may)
	}
}

// P10.1: only a delta of nothing is idle, and only where it may be.
func TestIdle(t *testing.T) {
	for _, m := range measures() {
		for _, d := range []api.Delta{{}, one(0, 0, []api.Run{}, []api.Run{}), {In: bags{{}, {}}, Out: bags{{}, {}}}} {
			if !Idle(m, d) {
				t.Errorf("%v is not idle, of %d measures", d, m)
			}
		}
		for _, d := range slices.Concat(goods(m), bads(m)) {
			want := goodOf(m, d) && d.N == 0
			for i := range m {
				want = want && len(d.In[i]) == 0 && len(d.Out[i]) == 0
			}
			if got := Idle(m, d); got != want {
				t.Errorf("Idle(%d, %v): %v", m, d, got)
			}
		}
	}
	for _, d := range []api.Delta{one(0, 2, runs(5, 1), runs(3, 1)), one(0, 0, runs(-1, 1, 1, 1), runs(0, 2)), one(0, 0, runs(5, 1), runs(5, 1)), one(0, 3, nil, nil), one(0, 0, runs(0, 0), nil), one(0, 0, nil, runs(0, 0)), {N: 1}, {N: low}, {Sum: [api.MaxMeasures]int64{0, 1}}, {In: bags{nil, runs(0, 1)}}, {Out: bags{nil, runs(0, 0)}}} {
		if Idle(1, d) || Idle(2, d) {
			t.Errorf("%v is idle", d)
		}
	}
}

// sameOf: what the chapter says of Same.
func sameOf(a, b api.Delta) bool {
	if a.N != b.N {
		return false
	}
	for i := range api.MaxMeasures {
		if a.Sum[i] != b.Sum[i] || !slices.Equal(a.In[i], b.In[i]) || !slices.Equal(a.Out[i], b.Out[i]) {
			return false
		}
	}
	return true
}

// copied: d in memory of its own.
func copied(d api.Delta) api.Delta {
	for i := range d.In {
		d.In[i], d.Out[i] = slices.Clone(d.In[i]), slices.Clone(d.Out[i])
	}
	return d
}

// P10.1: deltas alike, and with one thing turned, whether they may be or not.
func TestSame(t *testing.T) {
	for _, d := range slices.Concat(goods(1), goods(2), bads(1)[:60], bads(2)[:60]) {
		if !Same(d, copied(d)) {
			t.Errorf("%v is not the same as itself", d)
		}
		for _, other := range slices.Concat(turned(d), crossed(d)) {
			if want := sameOf(d, other); Same(d, other) != want || Same(other, d) != want {
				t.Errorf("Same(%v, %v) is not %v", d, other, want)
			}
		}
	}
}

// P10.1: some written out: each thing of each measure, In and Out in each other's place, nothing and no runs.
func TestSameWrittenOut(t *testing.T) {
	first, second := one(1, 7, runs(-2, 1, 5, 2), runs(-3, 1, 4, 1)), one(1, 0, runs(6, 1, 9, 1), runs(15, 1))
	d := two(first, second)
	for _, other := range []api.Delta{
		two(one(2, 7, first.In[0], first.Out[0]), second), two(one(1, 8, first.In[0], first.Out[0]), second), two(one(1, 7, first.Out[0], first.In[0]), second), two(first, one(1, 1, second.In[0], second.Out[0])), two(first, one(1, 0, second.Out[0], second.In[0])), two(second, first),
		two(one(1, 7, runs(-2, 1, 6, 2), first.Out[0]), second), two(one(1, 7, runs(-2, 1, 5, 1), first.Out[0]), second), two(one(1, 7, runs(5, 2, -2, 1), first.Out[0]), second), two(one(1, 7, nil, first.Out[0]), second), two(one(1, 7, first.In[0], runs(-3, 1, 5, 1)), second), two(one(1, 7, first.In[0], runs(-3, 2, 4, 1)), second), two(one(1, 7, first.In[0], runs(-3, 1)), second),
		two(first, one(1, 0, runs(6, 1, 8, 1), second.Out[0])), two(first, one(1, 0, runs(6, 1, 9, 2), second.Out[0])), two(first, one(1, 0, nil, second.Out[0])), two(first, one(1, 0, second.In[0], runs(14, 1))), two(first, one(1, 0, second.In[0], runs(15, 2))), two(first, one(1, 0, second.In[0], nil)), first, {},
	} {
		if Same(d, other) || Same(other, d) {
			t.Errorf("%v and %v are the same", d, other)
		}
		if !Same(other, copied(other)) {
			t.Errorf("%v is not the same as itself", other)
		}
	}
	if !Same(api.Delta{}, api.Delta{In: bags{{}, {}}, Out: bags{{}, {}}}) || !Same(one(1, 4, runs(4, 1), nil), two(one(1, 4, runs(4, 1), []api.Run{}), one(0, 0, []api.Run{}, nil))) {
		t.Error("nil and empty bags are not the same")
	}
}
