package spread

import (
	"slices"
	"testing"

	"cuboid/api"
	"cuboid/samples"
)

// come: a row that comes, at a place of two dimensions.
func come(a, b uint8, values ...int64) api.Change {
	ch := api.Change{Row: api.Row{At: api.Coord{a, b}}}
	copy(ch.Row.M[:], values)
	return ch
}

// gone: such a row that goes.
func gone(a, b uint8, values ...int64) api.Change {
	ch := come(a, b, values...)
	ch.Del = true
	return ch
}

// deltaOf: the delta of a change's first m measures, or false where there is none.
func deltaOf(m int, ch api.Change) (api.Delta, bool) {
	d := api.Delta{N: 1}
	if ch.Del {
		d.N = -1
	}
	for i, v := range ch.Row.M[:m] {
		switch {
		case !ch.Del:
			d.Sum[i], d.In[i] = v, runs(v, 1)
		case v == low:
			return api.Delta{}, false
		default:
			d.Sum[i], d.Out[i] = -v, runs(v, 1)
		}
	}
	return d, true
}

// ofOf: what the chapter says of Of, of a good c.
func ofOf(c api.Catalog, l []api.Change) ([]api.Part, bool) {
	var parts []api.Part
	for _, ch := range l {
		d, ok := deltaOf(c.Measures, ch)
		if !ok || !samples.IsPlace(c, api.Node{}, ch.Row.At) || c.Measures == 1 && ch.Row.M[1] != 0 {
			return nil, false
		}
		parts = append(parts, api.Part{At: ch.Row.At, D: d})
	}
	return spreadOf(c, api.Node{}, parts)
}

// holdOf asks for what is wanted of l, more than once: a map has many orders.
func holdOf(t *testing.T, c api.Catalog, l []api.Change) bool {
	t.Helper()
	want, is := ofOf(c, l)
	for range 3 {
		got, ok := Of(c, l)
		hold(t, got, ok, want, is, "Of", c, l)
		if ok && !Good(c, api.Node{}, got) {
			t.Fatalf("%v: %v may not be", c, got)
		}
	}
	return is
}

// P11.1: some written out, the chapter's example among them.
func TestOf(t *testing.T) {
	for _, x := range []struct {
		l    []api.Change
		want []api.Part
		ok   bool
	}{
		{nil, nil, true}, {[]api.Change{}, nil, true}, {[]api.Change{come(0, 0, 5)}, []api.Part{part(0, 0, comes(5))}, true}, {[]api.Change{gone(3, 2, 5)}, []api.Part{part(3, 2, goes(5))}, true}, {[]api.Change{come(0, 0, 0)}, []api.Part{part(0, 0, comes(0))}, true},
		{[]api.Change{come(1, 2, 5), gone(1, 2, 5)}, nil, true}, {[]api.Change{gone(1, 2, 5), come(1, 2, 5)}, nil, true}, {[]api.Change{come(1, 2, 5), gone(1, 2, 5), come(1, 2, 5)}, []api.Part{part(1, 2, comes(5))}, true}, {[]api.Change{come(1, 2, 5), gone(1, 2, 5), come(1, 1, 5)}, []api.Part{part(1, 1, comes(5))}, true}, {[]api.Change{come(1, 2, 5), gone(1, 1, 5)}, []api.Part{part(1, 1, goes(5)), part(1, 2, comes(5))}, true},
		{[]api.Change{come(1, 2, 5), gone(1, 2, 4)}, []api.Part{part(1, 2, one(0, 1, runs(5, 1), runs(4, 1)))}, true}, {[]api.Change{come(1, 2, 5), come(0, 0, 1), come(1, 2, 3), come(1, 2, 5)}, []api.Part{part(0, 0, comes(1)), part(1, 2, one(3, 13, runs(3, 1, 5, 2), nil))}, true}, {[]api.Change{come(0, 0, 1), come(0, 0, -1), gone(0, 0, 0), gone(0, 0, 0)}, []api.Part{part(0, 0, one(0, 0, runs(-1, 1, 1, 1), runs(0, 2)))}, true},
		{[]api.Change{come(3, 0, 1), come(0, 2, 2), come(2, 1, 3), come(0, 1, 4), come(2, 0, 5)}, []api.Part{part(0, 1, comes(4)), part(0, 2, comes(2)), part(2, 0, comes(5)), part(2, 1, comes(3)), part(3, 0, comes(1))}, true},
		{[]api.Change{come(4, 0, 1)}, nil, false}, {[]api.Change{come(0, 3, 1)}, nil, false}, {[]api.Change{{Row: api.Row{At: api.Coord{0, 0, 1}}}}, nil, false}, {[]api.Change{gone(0, 0, 1, 1)}, nil, false},
	} {
		got, ok := Of(small(1), x.l)
		hold(t, got, ok, x.want, x.ok, "Of", x.l)
	}
	both, ok := Of(small(2), []api.Change{come(1, 1, 5, 6), come(0, 1, 1, 2), gone(1, 1, 5, 7), gone(0, 1, 1, 2)})
	hold(t, both, ok, []api.Part{part(1, 1, two(nothing(), one(0, -1, runs(6, 1), runs(7, 1))))}, true, "Of two measures")
}

// P11.1: sums at both ends of 64 bits: each change has to fit to those ahead of it at its place, and to no other one.
func TestOfAtTheEnds(t *testing.T) {
	for _, x := range []struct {
		l    []api.Change
		want []api.Part
		ok   bool
	}{
		{[]api.Change{come(0, 0, top)}, []api.Part{part(0, 0, comes(top))}, true}, {[]api.Change{come(0, 0, low)}, []api.Part{part(0, 0, comes(low))}, true}, {[]api.Change{gone(0, 0, top)}, []api.Part{part(0, 0, goes(top))}, true}, {[]api.Change{gone(0, 0, low)}, nil, false}, {[]api.Change{gone(0, 0, low+1)}, []api.Part{part(0, 0, goes(low+1))}, true},
		{[]api.Change{gone(0, 0, low), come(0, 0, low)}, nil, false}, {[]api.Change{come(0, 0, low), gone(0, 0, low)}, nil, false}, {[]api.Change{come(0, 0, 1), come(0, 1, 1), gone(1, 0, low), come(2, 0, 1)}, nil, false}, {[]api.Change{come(0, 0, 1), gone(1, 0, low)}, nil, false},
		{[]api.Change{come(0, 0, top), come(0, 0, 1)}, nil, false}, {[]api.Change{come(0, 0, top), come(0, 0, 1), come(0, 0, -1)}, nil, false}, {[]api.Change{come(0, 0, top), come(0, 0, 1), gone(0, 0, 1)}, nil, false}, {[]api.Change{come(0, 0, top), come(0, 0, -1), come(0, 0, 1)}, []api.Part{part(0, 0, one(3, top, runs(-1, 1, 1, 1, top, 1), nil))}, true}, {[]api.Change{come(0, 0, top), gone(0, 0, 1), come(0, 0, 1)}, []api.Part{part(0, 0, comes(top))}, true}, {[]api.Change{come(0, 0, 1), gone(0, 0, 1), come(0, 0, top)}, []api.Part{part(0, 0, comes(top))}, true}, {[]api.Change{come(0, 0, 1), come(0, 0, top), gone(0, 0, 1)}, nil, false},
		{[]api.Change{come(0, 0, low), come(0, 0, -1), come(0, 0, 1)}, nil, false}, {[]api.Change{come(0, 0, low), come(0, 0, 1), come(0, 0, -1)}, []api.Part{part(0, 0, one(3, low, runs(low, 1, -1, 1, 1, 1), nil))}, true}, {[]api.Change{come(0, 0, low), gone(0, 0, 1), come(0, 0, 1)}, nil, false}, {[]api.Change{gone(0, 0, top), gone(0, 0, 1)}, []api.Part{part(0, 0, one(-2, low, nil, runs(1, 1, top, 1)))}, true}, {[]api.Change{gone(0, 0, top), gone(0, 0, 2), come(0, 0, 2)}, nil, false}, {[]api.Change{come(0, 0, low), come(0, 0, top)}, []api.Part{part(0, 0, one(2, -1, runs(low, 1, top, 1), nil))}, true},
		{[]api.Change{come(0, 0, top), come(0, 1, 1), come(1, 0, top), come(0, 2, top)}, []api.Part{part(0, 0, comes(top)), part(0, 1, comes(1)), part(0, 2, comes(top)), part(1, 0, comes(top))}, true}, {[]api.Change{come(0, 1, 1), come(0, 0, top), come(1, 0, 7), come(0, 0, 1), come(2, 0, 3), gone(0, 0, 1)}, nil, false}, {[]api.Change{come(0, 1, 1), come(0, 0, top), come(1, 0, 7), gone(0, 0, 1), come(2, 0, 3), come(0, 0, 1)}, []api.Part{part(0, 0, comes(top)), part(0, 1, comes(1)), part(1, 0, comes(7)), part(2, 0, comes(3))}, true},
	} {
		got, ok := Of(small(1), x.l)
		hold(t, got, ok, x.want, x.ok, "Of", x.l)
		// Of two measures, the other one without a limit near.
		for i := range api.MaxMeasures {
			l := slices.Clone(x.l)
			for at, ch := range l {
				l[at].Row.M = [api.MaxMeasures]int64{2, 2}
				l[at].Row.M[i] = ch.Row.M[0]
			}
			if holdOf(t, small(2), l) != x.ok {
				t.Errorf("%v: not %v", l, x.ok)
			}
		}
	}
}

// orders: the list in each order that it has.
func orders[T any](l []T) [][]T {
	if len(l) == 0 {
		return [][]T{nil}
	}
	var all [][]T
	for i := range l {
		for _, rest := range orders(slices.Concat(l[:i], l[i+1:])) {
			all = append(all, append([]T{l[i]}, rest...))
		}
	}
	return all
}

// P11.1: changes of one place and of another one in each order: some of them fit, some do not.
func TestOfInEachOrder(t *testing.T) {
	fits, beyond := 0, 0
	for _, l := range orders([]api.Change{come(1, 1, top), come(1, 1, 1), gone(1, 1, 1), come(0, 2, 4), come(1, 1, -3), gone(0, 2, 4)}) {
		if holdOf(t, small(1), l) {
			fits++
		} else {
			beyond++
		}
	}
	if fits < 100 || beyond < 100 {
		t.Errorf("%d orders fit, %d do not", fits, beyond)
	}
}

// changes: so many changes of a good c, of a few values, places by turns so that some come to nothing.
func changes(c api.Catalog, n int) []api.Change {
	places := samples.Places(c, api.Node{})
	var l []api.Change
	for i := range n {
		ch := api.Change{Del: (i*i+i/3)%3 == 1, Row: api.Row{At: places[(i*i*7+i*5)%len(places)]}}
		for m := range c.Measures {
			ch.Row.M[m] = int64(i*(m+1)%3 - 1)
		}
		l = append(l, ch)
	}
	return l
}

// P11.1: many changes, told out of order, against what comes and goes value by value.
func TestOfMany(t *testing.T) {
	for _, c := range samples.Goods() {
		for _, n := range []int{1, 2, 3, 10, 40, 300} {
			if l := changes(c, n); !holdOf(t, c, l) {
				t.Fatalf("%v: no spread of %v", c, l)
			}
		}
	}
}

// P11.1: all that come and then go again, the last one first or last: nothing.
func TestOfWhatComesAndGoes(t *testing.T) {
	for _, c := range samples.Goods() {
		l := changes(c, 60)
		back := slices.Clone(l)
		for i := range back {
			back[i].Del = !back[i].Del
		}
		for range 2 {
			got, ok := Of(c, slices.Concat(l, back))
			hold(t, got, ok, nil, true, "Of", c, l, back)
			slices.Reverse(back)
		}
	}
}

// P11.1: a row that may not be, the first, one in the midst, the last, whether it comes or goes: by its place, by a measure
// beyond the catalog's.
func TestOfNoRow(t *testing.T) {
	for _, c := range samples.Goods() {
		for _, i := range []int{0, 4, 8} {
			l := changes(c, 9)
			for _, del := range []bool{false, true} {
				for _, at := range samples.Spoilt(l[i].Row.At) {
					holdOfWith(t, c, l, i, api.Change{Del: del, Row: api.Row{At: at}}, samples.IsPlace(c, api.Node{}, at))
				}
				for _, v := range []int64{1, -1, low, top} {
					holdOfWith(t, c, l, i, api.Change{Del: del, Row: api.Row{At: l[i].Row.At, M: [api.MaxMeasures]int64{0, v}}}, c.Measures == 2 && !(del && v == low))
				}
				holdOfWith(t, c, l, i, api.Change{Del: del, Row: api.Row{At: l[i].Row.At, M: [api.MaxMeasures]int64{low}}}, !del)
			}
		}
	}
}

// holdOfWith asks for the list with that change in that place; at other places there are none beyond 64 bits.
func holdOfWith(t *testing.T, c api.Catalog, l []api.Change, i int, ch api.Change, is bool) {
	t.Helper()
	var with []api.Change
	for k, other := range l {
		if k == i {
			other = ch
		} else if other.Row.At == ch.Row.At {
			other.Row.M = [api.MaxMeasures]int64{}
		}
		with = append(with, other)
	}
	if holdOf(t, c, with) != is {
		t.Fatalf("%v: a spread of %v: not %v", c, with, is)
	}
}

// P11.1: of a catalog that may not be there is none, of no change either.
func TestOfOfBads(t *testing.T) {
	for i, c := range samples.Bads() {
		for _, l := range [][]api.Change{nil, {}, {come(0, 0)}, {gone(0, 0)}, {come(0, 0, 5, 5), gone(0, 0, 5, 5)}} {
			if got, ok := Of(c, l); len(got) != 0 || ok {
				t.Errorf("bad %d: Of(%v): %v %v", i, l, got, ok)
			}
		}
	}
}
