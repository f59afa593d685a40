package delta

import (
	"math/big"
	"slices"
	"testing"

	"cuboid/api"
	"cuboid/bag"
)

// comes: a row of these measures that comes, somewhere.
func comes(first, second int64) api.Change {
	return api.Change{Row: api.Row{At: api.Coord{uint8(first), 9, 8, 7}, M: [api.MaxMeasures]int64{first, second}}}
}

// goes: such a row that goes.
func goes(first, second int64) api.Change {
	ch := comes(first, second)
	ch.Del = true
	return ch
}

// zero: whether d says nothing at all.
func zero(d api.Delta) bool {
	return sameOf(d, api.Delta{})
}

// fitted: a number as an int64, or false where it is none.
func fitted(n *big.Int) (int64, bool) {
	if !n.IsInt64() {
		return 0, false
	}
	return n.Int64(), true
}

// plus: the sum of both, or false where it is no int64.
func plus(a, b int64) (int64, bool) { return fitted(new(big.Int).Add(big.NewInt(a), big.NewInt(b))) }

// less: a less b, or false where that is no int64.
func less(a, b int64) (int64, bool) { return fitted(new(big.Int).Sub(big.NewInt(a), big.NewInt(b))) }

// ofOf: what the chapter says of Of.
func ofOf(m int, ch api.Change) (api.Delta, bool) {
	if m < 1 || m > api.MaxMeasures {
		return api.Delta{}, false
	}
	d := api.Delta{N: 1}
	if ch.Del {
		d.N = -1
	}
	for i := range m {
		v := ch.Row.M[i]
		sum, ok := plus(0, v)
		if ch.Del {
			sum, ok = less(0, v)
			d.Out[i] = runs(v, 1)
		} else {
			d.In[i] = runs(v, 1)
		}
		if !ok {
			return api.Delta{}, false
		}
		d.Sum[i] = sum
	}
	return d, true
}

// P10.1: some written out, the chapter's example among them: what comes and what goes, at both ends of 64 bits.
func TestOf(t *testing.T) {
	for _, x := range []struct {
		m    int
		ch   api.Change
		want api.Delta
		ok   bool
	}{
		{1, comes(5, 7), one(1, 5, runs(5, 1), nil), true}, {1, goes(5, 7), one(-1, -5, nil, runs(5, 1)), true}, {2, comes(5, 7), two(one(1, 5, runs(5, 1), nil), one(1, 7, runs(7, 1), nil)), true}, {2, goes(5, -7), two(one(-1, -5, nil, runs(5, 1)), one(-1, 7, nil, runs(-7, 1))), true},
		{1, comes(0, 0), one(1, 0, runs(0, 1), nil), true}, {1, goes(0, 0), one(-1, 0, nil, runs(0, 1)), true}, {1, comes(top, 1), one(1, top, runs(top, 1), nil), true}, {1, goes(top, 1), one(-1, -top, nil, runs(top, 1)), true}, {1, goes(-top, 1), one(-1, top, nil, runs(-top, 1)), true},
		{1, comes(low, 0), one(1, low, runs(low, 1), nil), true}, {1, goes(low, 0), api.Delta{}, false}, {2, goes(low, 0), api.Delta{}, false}, {1, goes(3, low), one(-1, -3, nil, runs(3, 1)), true}, {2, goes(3, low), api.Delta{}, false}, {2, comes(top, low), two(one(1, top, runs(top, 1), nil), one(1, low, runs(low, 1), nil)), true}, {2, goes(4, 4), two(one(-1, -4, nil, runs(4, 1)), one(-1, -4, nil, runs(4, 1))), true},
	} {
		if got, ok := Of(x.m, x.ch); !sameOf(got, x.want) || ok != x.ok {
			t.Errorf("Of(%d, %v): %v %v, not %v %v", x.m, x.ch, got, ok, x.want, x.ok)
		}
	}
}

// some: numbers that measures may be.
func some() []int64 {
	return []int64{low, low + 1, -1 << 32, -3, -1, 0, 1, 2, 5, 1 << 40, top - 1, top}
}

// P10.1: each two measures, each number of them; none of one that is none. What is told may be.
func TestOfAll(t *testing.T) {
	none := 0
	for _, first := range some() {
		for _, second := range some() {
			for _, ch := range []api.Change{comes(first, second), goes(first, second)} {
				for _, m := range slices.Concat(measures(), noMeasures()) {
					want, is := ofOf(m, ch)
					if got, ok := Of(m, ch); !sameOf(got, want) || ok != is || is && !Good(m, got) {
						t.Fatalf("Of(%d, %v): %v %v, not %v %v", m, ch, got, ok, want, is)
					}
					if !is && (m == 1 || m == 2) {
						none++
					}
				}
			}
		}
	}
	// Of one measure, where the first is -2^63 and goes; of two, where one of the two is.
	if want := 3*len(some()) - 1; none != want {
		t.Errorf("%d of the changes have no delta, not %d", none, want)
	}
}

// P10.1: the place of a row is nothing to its delta.
func TestOfWhateverThePlace(t *testing.T) {
	for _, ch := range []api.Change{comes(5, 7), goes(5, 7)} {
		for _, at := range []api.Coord{{}, {1}, {255, 255, 255, 255}, {0, 0, 0, 9}} {
			other := ch
			other.Row.At = at
			want, _ := ofOf(2, ch)
			if got, ok := Of(2, other); !ok || !sameOf(got, want) {
				t.Errorf("Of(2, %v): %v %v, not %v", other, got, ok, want)
			}
		}
	}
}

// valuesOf: the values that are there in one of the bags, rising.
func valuesOf(all ...[]api.Run) []int64 {
	var l []int64
	for _, r := range slices.Concat(all...) {
		l = append(l, r.V)
	}
	slices.Sort(l)
	return slices.Compact(l)
}

// hasOf: how often v is there in all of the bags together.
func hasOf(v int64, all ...[]api.Run) int64 {
	var n int64
	for _, r := range slices.Concat(all...) {
		if r.V == v {
			n += r.N
		}
	}
	return n
}

// joinOf: what the chapter says of Join, value by value.
func joinOf(m int, a, b api.Delta) (api.Delta, bool) {
	if !goodOf(m, a) || !goodOf(m, b) {
		return api.Delta{}, false
	}
	d := api.Delta{N: a.N + b.N}
	for i := range m {
		sum, fits := plus(a.Sum[i], b.Sum[i])
		if !fits || bag.Count(a.In[i])+bag.Count(b.In[i]) > most || bag.Count(a.Out[i])+bag.Count(b.Out[i]) > most {
			return api.Delta{}, false
		}
		d.Sum[i] = sum
		for _, v := range valuesOf(a.In[i], b.In[i], a.Out[i], b.Out[i]) {
			in, out := hasOf(v, a.In[i], b.In[i]), hasOf(v, a.Out[i], b.Out[i])
			if in > out {
				d.In[i] = append(d.In[i], api.Run{V: v, N: in - out})
			}
			if out > in {
				d.Out[i] = append(d.Out[i], api.Run{V: v, N: out - in})
			}
		}
	}
	return d, goodOf(m, d)
}

// holdJoin: Join tells what the chapter says, either way round, and what it tells may be.
func holdJoin(t *testing.T, m int, a, b api.Delta) bool {
	t.Helper()
	want, is := joinOf(m, a, b)
	for _, pair := range [][2]api.Delta{{a, b}, {b, a}} {
		got, ok := Join(m, pair[0], pair[1])
		if !sameOf(got, want) || ok != is || is && !Good(m, got) {
			t.Fatalf("Join(%d, %v, %v): %v %v, not %v %v", m, pair[0], pair[1], got, ok, want, is)
		}
	}
	return is
}

type joined struct {
	a, b, want api.Delta
	ok         bool
}

func holdJoined(t *testing.T, m int, l []joined) {
	t.Helper()
	for _, x := range l {
		for _, pair := range [][2]api.Delta{{x.a, x.b}, {x.b, x.a}} {
			if got, ok := Join(m, pair[0], pair[1]); !sameOf(got, x.want) || ok != x.ok {
				t.Errorf("Join(%d, %v, %v): %v %v, not %v %v", m, pair[0], pair[1], got, ok, x.want, x.ok)
			}
		}
	}
}

// P10.2: some written out: a value that comes and goes, as often, more often, less often; nothing; such that may not be.
func TestJoin(t *testing.T) {
	holdJoined(t, 1, []joined{
		{one(1, 5, runs(5, 1), nil), one(1, 3, runs(3, 1), nil), one(2, 8, runs(3, 1, 5, 1), nil), true}, {one(-1, -5, nil, runs(5, 1)), one(-1, -3, nil, runs(3, 1)), one(-2, -8, nil, runs(3, 1, 5, 1)), true}, {one(1, 5, runs(5, 1), nil), one(1, 5, runs(5, 1), nil), one(2, 10, runs(5, 2), nil), true}, {one(1, 5, runs(5, 1), nil), one(-1, -3, nil, runs(3, 1)), one(0, 2, runs(5, 1), runs(3, 1)), true},
		{one(1, 5, runs(5, 1), nil), one(-1, -5, nil, runs(5, 1)), api.Delta{}, true}, {one(3, 15, runs(5, 3), nil), one(-1, -5, nil, runs(5, 1)), one(2, 10, runs(5, 2), nil), true}, {one(1, 5, runs(5, 1), nil), one(-3, -15, nil, runs(5, 3)), one(-2, -10, nil, runs(5, 2)), true}, {one(0, 2, runs(5, 1), runs(3, 1)), one(0, -2, runs(3, 1), runs(5, 1)), api.Delta{}, true},
		{one(0, 2, runs(5, 1), runs(3, 1)), one(0, 4, runs(7, 1), runs(3, 1)), one(0, 6, runs(5, 1, 7, 1), runs(3, 2)), true}, {one(0, 2, runs(5, 1), runs(3, 1)), one(0, 2, runs(7, 1), runs(5, 1)), one(0, 4, runs(7, 1), runs(3, 1)), true}, {one(0, 2, runs(5, 1), runs(3, 1)), one(-2, -4, runs(3, 2), runs(5, 2, 0, 1, 1, 1)), api.Delta{}, false}, {one(1, 7, runs(-2, 1, 5, 2), runs(-3, 1, 4, 1)), one(-1, -3, runs(-3, 1, 4, 2), runs(-2, 1, 0, 2, 5, 2)), api.Delta{}, false},
		{one(1, 7, runs(-2, 1, 5, 2), runs(-3, 1, 4, 1)), one(-2, -3, runs(-3, 1, 4, 2), runs(-2, 1, 0, 2, 5, 2)), one(-1, 4, runs(4, 1), runs(0, 2)), true}, {api.Delta{}, one(0, 2, runs(5, 1), runs(3, 1)), one(0, 2, runs(5, 1), runs(3, 1)), true}, {api.Delta{}, api.Delta{}, api.Delta{}, true},
		{one(0, 3, nil, nil), one(1, 5, runs(5, 1), nil), api.Delta{}, false}, {one(0, 3, nil, nil), one(0, -3, nil, nil), api.Delta{}, false}, {one(0, 0, runs(5, 1), runs(5, 1)), api.Delta{}, api.Delta{}, false}, {api.Delta{N: 1}, api.Delta{N: -1}, api.Delta{}, false}, {one(1, 4, runs(5, 1), nil), one(1, 6, runs(5, 1), nil), api.Delta{}, false}, {one(2, 3, runs(2, 1, 1, 1), nil), api.Delta{}, api.Delta{}, false},
	})
	a, b := two(one(1, 5, runs(5, 1), nil), one(1, 2, runs(2, 1), nil)), two(one(-1, -5, nil, runs(5, 1)), one(-1, -4, nil, runs(4, 1)))
	holdJoined(t, 2, []joined{
		{a, b, two(api.Delta{}, one(0, -2, runs(2, 1), runs(4, 1))), true}, {a, a, two(one(2, 10, runs(5, 2), nil), one(2, 4, runs(2, 2), nil)), true}, {b, b, two(one(-2, -10, nil, runs(5, 2)), one(-2, -8, nil, runs(4, 2))), true}, {a, one(1, 5, runs(5, 1), nil), api.Delta{}, false}, {one(1, 5, runs(5, 1), nil), one(-1, -5, nil, runs(5, 1)), api.Delta{}, false},
	})
	holdJoined(t, 1, []joined{{a, b, api.Delta{}, false}, {a, api.Delta{}, api.Delta{}, false}})
}

// P10.2: the joined bags just MaxCount and one more, ahead of what is taken out of both; a sum that comes to the last int64
// and to one beyond.
func TestJoinAtTheEnds(t *testing.T) {
	holdJoined(t, 1, []joined{
		{one(most-1, 0, runs(0, most-1), nil), one(1, 1, runs(1, 1), nil), one(most, 1, runs(0, most-1, 1, 1), nil), true}, {one(most, 0, runs(0, most), nil), one(1, 1, runs(1, 1), nil), api.Delta{}, false}, {one(1-most, 0, nil, runs(0, most-1)), one(-1, -1, nil, runs(1, 1)), one(-most, -1, nil, runs(0, most-1, 1, 1)), true}, {one(-most, 0, nil, runs(0, most)), one(-1, -1, nil, runs(1, 1)), api.Delta{}, false},
		{one(most, 0, runs(0, most), nil), one(-1, 0, nil, runs(0, 1)), one(most-1, 0, runs(0, most-1), nil), true}, {one(most, 0, runs(0, most), nil), one(-most, 0, nil, runs(0, most)), api.Delta{}, true}, {one(most, 0, runs(0, most), nil), one(0, 1, runs(1, 1), runs(0, 1)), api.Delta{}, false}, {one(-most, 0, nil, runs(0, most)), one(0, -1, runs(0, 1), runs(1, 1)), api.Delta{}, false},
		{one(most-1, 0, runs(0, most-1), nil), one(0, 1, runs(1, 1), runs(0, 1)), one(most-1, 1, runs(0, most-2, 1, 1), nil), true}, {one(1-most, 0, nil, runs(0, most-1)), one(0, -1, runs(0, 1), runs(1, 1)), one(1-most, -1, nil, runs(0, most-2, 1, 1)), true}, {one(0, most, runs(1, most), runs(0, most)), one(0, -most, runs(0, most), runs(1, most)), api.Delta{}, false}, {one(most/2, 0, runs(0, most/2), nil), one(most/2, 0, runs(0, most/2), nil), one(most, 0, runs(0, most), nil), true}, {one(most, 0, runs(0, most), nil), one(most, 0, runs(0, most), nil), api.Delta{}, false},
		{one(1, top-1, runs(top-1, 1), nil), one(1, 1, runs(1, 1), nil), one(2, top, runs(1, 1, top-1, 1), nil), true}, {one(1, top, runs(top, 1), nil), one(1, 1, runs(1, 1), nil), api.Delta{}, false}, {one(1, top, runs(top, 1), nil), one(-1, 1, nil, runs(-1, 1)), api.Delta{}, false}, {one(1, top, runs(top, 1), nil), one(1, 0, runs(0, 1), nil), one(2, top, runs(0, 1, top, 1), nil), true}, {one(1, top, runs(top, 1), nil), one(1, top, runs(top, 1), nil), api.Delta{}, false}, {one(1, top, runs(top, 1), nil), one(1, low, runs(low, 1), nil), one(2, -1, runs(low, 1, top, 1), nil), true},
		{one(1, low+1, runs(low+1, 1), nil), one(1, -1, runs(-1, 1), nil), one(2, low, runs(low+1, 1, -1, 1), nil), true}, {one(1, low, runs(low, 1), nil), one(1, -1, runs(-1, 1), nil), api.Delta{}, false}, {one(-1, -top, nil, runs(top, 1)), one(-1, -1, nil, runs(1, 1)), one(-2, low, nil, runs(1, 1, top, 1)), true}, {one(-1, -top, nil, runs(top, 1)), one(-1, -2, nil, runs(2, 1)), api.Delta{}, false}, {one(1, low, runs(low, 1), nil), one(0, top, runs(-1, 1), runs(low, 1)), one(1, -1, runs(-1, 1), nil), true}, {one(0, top, runs(-1, 1), runs(low, 1)), one(1, 1, runs(1, 1), nil), api.Delta{}, false},
		// The sum of what is joined fits, that of what comes in it does not.
		{one(0, 1, runs(top, 1), runs(top-1, 1)), one(0, 1, runs(top, 1), runs(top-1, 1)), one(0, 2, runs(top, 2), runs(top-1, 2)), true}, {one(1, top, runs(top, 1), nil), one(0, -1, runs(top-2, 1), runs(top-1, 1)), one(1, top-1, runs(top-2, 1, top, 1), runs(top-1, 1)), true},
	})
	full, rest := one(most, 0, runs(0, most), nil), one(1, 0, runs(0, 1), nil)
	holdJoined(t, 2, []joined{
		{two(full, full), two(rest, rest), api.Delta{}, false}, {two(one(0, 0, nil, nil), one(0, most, runs(1, most), runs(0, most))), two(one(1, 1, runs(1, 1), nil), one(1, 1, runs(1, 1), nil)), api.Delta{}, false},
		{two(one(0, 0, nil, nil), one(0, most, runs(1, most), runs(0, most))), two(one(-1, -1, nil, runs(1, 1)), one(-1, -1, nil, runs(1, 1))), api.Delta{}, false}, {two(one(1, 0, runs(0, 1), nil), one(1, top, runs(top, 1), nil)), two(one(1, 0, runs(0, 1), nil), one(1, 1, runs(1, 1), nil)), api.Delta{}, false}, {two(one(1, low, runs(low, 1), nil), one(1, 0, runs(0, 1), nil)), two(one(-1, -1, nil, runs(1, 1)), one(-1, 0, nil, runs(0, 1))), api.Delta{}, false},
	})
}

// P10.2: every two that may be, and each of them with each that may not be.
func TestJoinOfAll(t *testing.T) {
	for _, m := range measures() {
		fits, beyond := 0, 0
		for _, a := range goods(m) {
			for _, b := range goods(m) {
				if holdJoin(t, m, a, b) {
					fits++
				} else {
					beyond++
				}
			}
			for _, b := range bads(m) {
				if holdJoin(t, m, a, b) {
					t.Errorf("%v joined with %v, of %d measures", a, b, m)
				}
			}
		}
		if fits < 300 || beyond < 300 {
			t.Errorf("of %d measures %d fit, %d do not", m, fits, beyond)
		}
	}
}

// small: all deltas of one measure of up to two of each of three values, that come or go.
func small() []api.Delta {
	var all []api.Delta
	for n := range 5 * 5 * 5 {
		var d api.Delta
		for _, v := range []int64{-1, 0, 3} {
			times := int64(n%5 - 2)
			n /= 5
			d.N += times
			d.Sum[0] += v * times
			if times > 0 {
				d.In[0] = append(d.In[0], api.Run{V: v, N: times})
			}
			if times < 0 {
				d.Out[0] = append(d.Out[0], api.Run{V: v, N: -times})
			}
		}
		all = append(all, d)
	}
	return all
}

// P10.2: every two of the small ones, each value as often, more often, less often there than it goes.
func TestJoinOfSmall(t *testing.T) {
	for i, a := range small() {
		for j, b := range small() {
			if !holdJoin(t, 1, a, b) || (i+j)%7 == 0 && !holdJoin(t, 2, two(a, a), two(b, b)) {
				t.Fatalf("%v joined with %v is none", a, b)
			}
		}
	}
}

// P10.2: nothing is told of an m that is none, whatever is joined.
func TestJoinOfNoMeasures(t *testing.T) {
	for _, m := range noMeasures() {
		for _, d := range slices.Concat(goods(1), goods(2), bads(1)[:60]) {
			if got, ok := Join(m, d, d); !zero(got) || ok {
				t.Errorf("Join(%d, %v, itself): %v %v", m, d, got, ok)
			}
			if got, ok := Neg(m, d); !zero(got) || ok {
				t.Errorf("Neg(%d, %v): %v %v", m, d, got, ok)
			}
		}
	}
}

// negOf: what the chapter says of Neg.
func negOf(m int, d api.Delta) (api.Delta, bool) {
	if !goodOf(m, d) {
		return api.Delta{}, false
	}
	back := api.Delta{N: -d.N, In: d.Out, Out: d.In}
	for i := range m {
		sum, ok := less(0, d.Sum[i])
		if !ok {
			return api.Delta{}, false
		}
		back.Sum[i] = sum
	}
	return back, true
}

// P10.2: some written out, of a sum of -2^63 of each measure, and all others; the Neg of a Neg is what was ahead.
func TestNeg(t *testing.T) {
	for _, x := range []struct {
		m       int
		d, want api.Delta
		ok      bool
	}{
		{1, one(0, 2, runs(5, 1), runs(3, 1)), one(0, -2, runs(3, 1), runs(5, 1)), true}, {1, one(1, 5, runs(5, 1), nil), one(-1, -5, nil, runs(5, 1)), true}, {1, one(-2, -10, nil, runs(5, 2)), one(2, 10, runs(5, 2), nil), true}, {1, api.Delta{}, api.Delta{}, true}, {2, api.Delta{}, api.Delta{}, true}, {1, one(1, top, runs(top, 1), nil), one(-1, -top, nil, runs(top, 1)), true}, {1, one(most, 0, runs(0, most), nil), one(-most, 0, nil, runs(0, most)), true}, {1, one(1, low+1, runs(low+1, 1), nil), one(-1, top, nil, runs(low+1, 1)), true},
		{1, one(1, low, runs(low, 1), nil), api.Delta{}, false}, {1, one(0, low, runs(-1, 1), runs(top, 1)), api.Delta{}, false}, {2, two(one(1, 5, runs(5, 1), nil), one(1, low, runs(low, 1), nil)), api.Delta{}, false}, {2, two(one(1, low, runs(low, 1), nil), one(1, 5, runs(5, 1), nil)), api.Delta{}, false}, {1, one(0, top, runs(-1, 1), runs(low, 1)), one(0, -top, runs(low, 1), runs(-1, 1)), true},
		{2, two(one(1, 5, runs(5, 1), nil), one(1, -3, runs(1, 1, 2, 1), runs(6, 1))), two(one(-1, -5, nil, runs(5, 1)), one(-1, 3, runs(6, 1), runs(1, 1, 2, 1))), true}, {1, one(0, 5, nil, nil), api.Delta{}, false}, {1, one(0, 0, runs(5, 1), runs(5, 1)), api.Delta{}, false}, {2, one(1, 5, runs(5, 1), nil), api.Delta{}, false}, {1, one(most+1, 0, runs(0, most+1), nil), api.Delta{}, false},
	} {
		if got, ok := Neg(x.m, x.d); !sameOf(got, x.want) || ok != x.ok {
			t.Errorf("Neg(%d, %v): %v %v, not %v %v", x.m, x.d, got, ok, x.want, x.ok)
		}
	}
	for _, m := range measures() {
		for _, d := range slices.Concat(goods(m), bads(m)) {
			want, is := negOf(m, d)
			got, ok := Neg(m, d)
			if !sameOf(got, want) || ok != is {
				t.Fatalf("Neg(%d, %v): %v %v, not %v %v", m, d, got, ok, want, is)
			}
			if back, ok := Neg(m, got); is && (!sameOf(back, d) || !ok) {
				t.Fatalf("Neg(%d, Neg of %v): %v %v", m, d, back, ok)
			}
		}
	}
}
