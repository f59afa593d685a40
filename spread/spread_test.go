package spread

import (
	"bytes"
	"maps"
	"math"
	"math/big"
	"slices"
	"testing"

	"cuboid/api"
	"cuboid/samples"
)

const (
	top  = math.MaxInt64
	low  = math.MinInt64
	most = api.MaxCount
)

// small: a catalog of two dimensions, the places of which are written out in the tests.
func small(measures int) api.Catalog {
	return samples.Catalog(measures, api.Dim{Sizes: []int{4, 2}, Up: [][]int{{0, 0, 1, 1}}}, api.Dim{Sizes: []int{3}})
}

// runs: a value and how often it is there, by turns.
func runs(l ...int64) []api.Run {
	var b []api.Run
	for pair := range slices.Chunk(l, 2) {
		b = append(b, api.Run{V: pair[0], N: pair[1]})
	}
	return b
}

// one: what is said to be a delta of one measure.
func one(n, sum int64, in, out []api.Run) api.Delta {
	return api.Delta{N: n, Sum: [api.MaxMeasures]int64{sum}, In: [api.MaxMeasures][]api.Run{in}, Out: [api.MaxMeasures][]api.Run{out}}
}

// two: what is said to be a delta of two measures, put together of two of one.
func two(a, b api.Delta) api.Delta {
	return api.Delta{N: a.N, Sum: [api.MaxMeasures]int64{a.Sum[0], b.Sum[0]}, In: [api.MaxMeasures][]api.Run{a.In[0], b.In[0]}, Out: [api.MaxMeasures][]api.Run{a.Out[0], b.Out[0]}}
}

// comes: the delta of one row with this value that comes.
func comes(v int64) api.Delta { return one(1, v, runs(v, 1), nil) }

// goes: the delta of one row with this value, but -2^63, that goes.
func goes(v int64) api.Delta { return one(-1, -v, nil, runs(v, 1)) }

// nothing: the delta that is idle.
func nothing() api.Delta { return api.Delta{} }

// part: a delta at a place of two dimensions.
func part(a, b uint8, d api.Delta) api.Part {
	return api.Part{At: api.Coord{a, b}, D: d}
}

// goods: deltas that may be, of m measures, and are not idle; some of them come to nothing together.
func goods(m int) []api.Delta {
	if m == 1 {
		return []api.Delta{comes(5), goes(5), one(0, 2, runs(5, 1), runs(3, 1)), comes(3), goes(3), one(0, -2, runs(3, 1), runs(5, 1)), one(2, 10, runs(5, 2), nil), comes(0), one(-2, -10, nil, runs(5, 2)), goes(0), one(0, 0, runs(-1, 1, 1, 1), runs(0, 2)), one(-1, -6, runs(4, 1), runs(3, 1, 7, 1))}
	}
	var all []api.Delta
	for _, a := range goods(1) {
		for _, b := range goods(1) {
			if a.N == b.N {
				all = append(all, two(a, b))
			}
		}
	}
	// Nothing in one of the measures.
	return append(all, two(nothing(), one(0, 2, runs(5, 1), runs(3, 1))), two(one(0, -2, runs(3, 1), runs(5, 1)), nothing()))
}

// ends: deltas that may be, of m measures, at both ends of 64 bits and of MaxCount: most of them can't be joined with each
// other.
func ends(m int) []api.Delta {
	first := []api.Delta{comes(top), comes(1), goes(1), comes(low), goes(top), comes(-1), one(most, 0, runs(0, most), nil), one(-most, 0, nil, runs(0, most)), one(0, low, runs(low, 1), runs(0, 1)), one(0, top, runs(-1, 1), runs(low, 1)), one(most-1, 0, runs(0, most-1), nil)}
	if m == 1 {
		return first
	}
	var all []api.Delta
	for _, a := range first {
		for _, b := range first {
			if a.N == b.N {
				all = append(all, two(a, b))
			}
		}
	}
	return append(all, two(nothing(), one(0, top, runs(-1, 1), runs(low, 1))), two(one(0, low, runs(low, 1), runs(0, 1)), nothing()))
}

// bads: deltas that may not be, of m measures.
func bads(m int) []api.Delta {
	// Deltas of another number of measures: where rows come or go, each measure has their values.
	others := goods(api.MaxMeasures)[:4]
	if m > 1 {
		others = goods(1)[:2]
	}
	return slices.Concat(others, []api.Delta{{N: 1}, one(0, 3, nil, nil), one(1, 6, runs(5, 1), nil), one(2, 5, runs(5, 1), nil), one(0, 0, runs(5, 1), runs(5, 1)), one(2, 8, runs(5, 1, 3, 1), nil), one(0, 0, runs(5, 0), nil), one(most+1, 0, runs(0, most+1), nil), one(-1, low, nil, runs(low, 1)), {Sum: [api.MaxMeasures]int64{0, 1}}, {Out: [api.MaxMeasures][]api.Run{nil, runs(0, 0)}}})
}

// laid: a spread of these places, which rise, the deltas by turns, from that one on.
func laid(places []api.Coord, deltas []api.Delta, from int) []api.Part {
	var l []api.Part
	for i, at := range places {
		l = append(l, api.Part{At: at, D: deltas[(from+i)%len(deltas)]})
	}
	return l
}

// each: of the places the first one, and each behind it that is so many further on.
func each(places []api.Coord, by int) []api.Coord {
	var l []api.Coord
	for i := 0; i < len(places); i += by {
		l = append(l, places[i])
	}
	return l
}

// tally: what is told of one place, value by value, by numbers without an end.
type tally struct {
	n   int64
	sum [api.MaxMeasures]big.Int
	net [api.MaxMeasures]map[int64]int64
}

// add: d, which may be, is told too; false where the two can't be joined.
func (t *tally) add(d api.Delta) bool {
	t.n += d.N
	for i := range d.In {
		if t.net[i] == nil {
			t.net[i] = map[int64]int64{}
		}
		var in, out int64
		for _, n := range t.net[i] {
			in, out = in+max(n, 0), out+max(-n, 0)
		}
		for _, r := range d.In[i] {
			t.net[i][r.V] += r.N
			in += r.N
		}
		for _, r := range d.Out[i] {
			t.net[i][r.V] -= r.N
			out += r.N
		}
		t.sum[i].Add(&t.sum[i], big.NewInt(d.Sum[i]))
		if in > most || out > most || !t.sum[i].IsInt64() {
			return false
		}
	}
	return true
}

// delta: what has been told, as a delta.
func (t *tally) delta() api.Delta {
	d := api.Delta{N: t.n}
	for i, net := range t.net {
		d.Sum[i] = t.sum[i].Int64()
		for _, v := range slices.Sorted(maps.Keys(net)) {
			if net[v] > 0 {
				d.In[i] = append(d.In[i], api.Run{V: v, N: net[v]})
			}
			if net[v] < 0 {
				d.Out[i] = append(d.Out[i], api.Run{V: v, N: -net[v]})
			}
		}
	}
	return d
}

// idle: whether d, which may be, is nothing.
func idle(d api.Delta) bool {
	return d.N == 0 && len(d.In[0])+len(d.In[1])+len(d.Out[0])+len(d.Out[1]) == 0
}

// spreadOf: the spread of a good c's node v that these parts come to, place by place in l's order; all may be.
func spreadOf(c api.Catalog, v api.Node, l []api.Part) ([]api.Part, bool) {
	var all []api.Part
	for _, at := range samples.Places(c, v) {
		var t tally
		for _, p := range l {
			if p.At == at && !t.add(p.D) {
				return nil, false
			}
		}
		if d := t.delta(); !idle(d) {
			all = append(all, api.Part{At: at, D: d})
		}
	}
	return all, true
}

// sameOf: what the chapter says of Same.
func sameOf(a, b []api.Part) bool {
	if len(a) != len(b) {
		return false
	}
	for i, p := range a {
		d, e := p.D, b[i].D
		if p.At != b[i].At || d.N != e.N || d.Sum != e.Sum {
			return false
		}
		for m := range d.In {
			if !slices.Equal(d.In[m], e.In[m]) || !slices.Equal(d.Out[m], e.Out[m]) {
				return false
			}
		}
	}
	return true
}

// rises: whether each place is above the one ahead, byte by byte.
func rises(l []api.Part) bool {
	for i := 1; i < len(l); i++ {
		if bytes.Compare(l[i-1].At[:], l[i].At[:]) >= 0 {
			return false
		}
	}
	return true
}

// hold asks whether a call told what was wanted, rising; no list with false.
func hold(t *testing.T, got []api.Part, ok bool, want []api.Part, is bool, call ...any) {
	t.Helper()
	if ok != is || !sameOf(got, want) || !rises(got) || !ok && len(got) != 0 {
		t.Fatalf("%v:\n%v %v, not\n%v %v", call, got, ok, want, is)
	}
}
