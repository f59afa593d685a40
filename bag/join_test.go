package bag

import (
	"slices"
	"testing"

	"cuboid/api"
)

// valuesOf: the values that are there in one of the bags, rising.
func valuesOf(bags ...[]api.Run) []int64 {
	var l []int64
	for _, r := range slices.Concat(bags...) {
		l = append(l, r.V)
	}
	slices.Sort(l)
	return slices.Compact(l)
}

// joinOf: what the chapter says of Join, value by value.
func joinOf(a, b []api.Run) ([]api.Run, bool) {
	if !goodOf(a) || !goodOf(b) {
		return nil, false
	}
	var all []api.Run
	for _, v := range valuesOf(a, b) {
		all = append(all, api.Run{V: v, N: hasOf(a, v) + hasOf(b, v)})
	}
	if !goodOf(all) {
		return nil, false
	}
	return all, true
}

// minusOf: what the chapter says of Minus, value by value.
func minusOf(a, b []api.Run) ([]api.Run, bool) {
	if !goodOf(a) || !goodOf(b) {
		return nil, false
	}
	var left []api.Run
	for _, v := range valuesOf(a, b) {
		switch n := hasOf(a, v) - hasOf(b, v); {
		case n < 0:
			return nil, false
		case n > 0:
			left = append(left, api.Run{V: v, N: n})
		}
	}
	return left, true
}

func holdPair(t *testing.T, name string, told, itself func(a, b []api.Run) ([]api.Run, bool), a, b []api.Run) bool {
	t.Helper()
	want, is := itself(a, b)
	if got, ok := told(a, b); !slices.Equal(got, want) || ok != is {
		t.Fatalf("%s(%v, %v): %v %v, not %v %v", name, a, b, got, ok, want, is)
	}
	return is
}

// some: bags and runs that are none, and all bags of up to 2 of each of four values.
func some() [][]api.Run {
	all := slices.Concat(goods(), bads())
	for n := range 3 * 3 * 3 * 3 {
		var b []api.Run
		for _, v := range []int64{low, -1, 0, top} {
			if n%3 > 0 {
				b = append(b, api.Run{V: v, N: int64(n % 3)})
			}
			n /= 3
		}
		all = append(all, b)
	}
	return all
}

type two struct {
	a, b, want []api.Run
	ok         bool
}

func holdTwos(t *testing.T, name string, told func(a, b []api.Run) ([]api.Run, bool), l []two) {
	t.Helper()
	for _, x := range l {
		if got, ok := told(x.a, x.b); !slices.Equal(got, x.want) || ok != x.ok {
			t.Errorf("%s(%v, %v): %v %v, not %v %v", name, x.a, x.b, got, ok, x.want, x.ok)
		}
	}
}

// P8.2: with nothing, with the same values, between and beyond, just MaxCount together and one more.
func TestJoin(t *testing.T) {
	holdTwos(t, "Join", Join, []two{
		{nil, nil, nil, true}, {of(1, 1), nil, of(1, 1), true}, {nil, of(1, 1, 2, 3), of(1, 1, 2, 3), true}, {of(2, 2), of(2, 3), of(2, 5), true},
		{of(1, 1, 3, 2), of(2, 1, 3, 1), of(1, 1, 2, 1, 3, 3), true}, {of(5, 1), of(low, 2, top, 3), of(low, 2, 5, 1, top, 3), true},
		{of(1, 1, 2, 1), of(3, 1, 4, 1), of(1, 1, 2, 1, 3, 1, 4, 1), true}, {of(3, 1, 4, 1), of(1, 1, 2, 1), of(1, 1, 2, 1, 3, 1, 4, 1), true},
		{of(low, 1, top, 1), of(low, 1, top, 1), of(low, 2, top, 2), true}, {of(-1, 1, 1, 1), of(0, 1), of(-1, 1, 0, 1, 1, 1), true},
		{of(1, most-1), of(1, 1), of(1, most), true}, {of(1, most-1), of(2, 1), of(1, most-1, 2, 1), true}, {of(2, 1), of(1, most-1), of(1, most-1, 2, 1), true},
		{of(1, most/2), of(1, most/2), of(1, most), true}, {of(1, most), nil, of(1, most), true}, {nil, of(1, most), of(1, most), true},
		{of(1, most), of(1, 1), nil, false}, {of(1, most), of(2, 1), nil, false}, {of(2, 1), of(1, most), nil, false}, {of(1, most), of(1, most), nil, false},
		{of(1, most/2, 2, 1), of(1, most/2), nil, false}, {of(1, most-1), of(1, 1, 2, 1), nil, false},
		{of(1, 0), nil, nil, false}, {nil, of(1, 0), nil, false}, {of(2, 1, 1, 1), of(5, 1), nil, false}, {of(5, 1), of(2, 1, 1, 1), nil, false}, {of(1, -1), of(1, 2), nil, false},
		{of(1, top), of(1, top), nil, false}, {of(1, 1), of(1, top), nil, false}, {of(1, low), of(1, low), nil, false}, {of(1, 1, 1, 1), of(1, 1, 1, 1), nil, false},
	})
}

// P8.2: a without b's: some, all of a value, everything; false where a value is there less often, or not at all.
func TestMinus(t *testing.T) {
	holdTwos(t, "Minus", Minus, []two{
		{nil, nil, nil, true}, {of(1, 1), nil, of(1, 1), true}, {of(1, 1, 3, 2), of(3, 1), of(1, 1, 3, 1), true}, {of(1, 1, 3, 2), of(3, 2), of(1, 1), true},
		{of(1, 1, 3, 2), of(1, 1), of(3, 2), true}, {of(1, 1, 3, 2), of(1, 1, 3, 1), of(3, 1), true}, {of(1, 1, 3, 2), of(1, 1, 3, 2), nil, true},
		{of(low, 2, 0, 1, top, 2), of(0, 1), of(low, 2, top, 2), true}, {of(low, 2, 0, 1, top, 2), of(low, 2, top, 2), of(0, 1), true},
		{of(1, most), of(1, most), nil, true}, {of(1, most), of(1, 1), of(1, most-1), true}, {of(1, most), of(1, most-1), of(1, 1), true},
		{of(1, 1, 3, 2), of(1, 2), nil, false}, {of(1, 1, 3, 2), of(3, 3), nil, false}, {of(1, 1, 3, 2), of(1, 1, 3, 3), nil, false}, {of(1, 1, 3, 2), of(1, 2, 3, 1), nil, false},
		{of(1, 1, 3, 2), of(0, 1), nil, false}, {of(1, 1, 3, 2), of(2, 1), nil, false}, {of(1, 1, 3, 2), of(4, 1), nil, false}, {of(1, 1, 3, 2), of(0, 1, 3, 1), nil, false},
		{of(1, 1, 3, 2), of(1, 1, 2, 1), nil, false}, {of(1, 1, 3, 2), of(1, 1, 2, 1, 3, 1), nil, false}, {of(1, 1, 3, 2), of(1, 1, 3, 2, top, 1), nil, false}, {of(1, 1, 3, 2), of(low, 1), nil, false},
		{nil, of(1, 1), nil, false}, {of(1, 1), of(1, most), nil, false}, {of(1, most-1), of(1, most), nil, false},
		{of(1, 0), nil, nil, false}, {nil, of(1, 0), nil, false}, {of(1, 5, 2, 5), of(2, 1, 1, 1), nil, false}, {of(1, 5), of(1, 1, 1, 1), nil, false}, {of(2, 5, 1, 5), of(1, 1), nil, false},
		{of(1, 5), of(1, -1), nil, false}, {of(1, 5), of(1, low), nil, false}, {of(1, most+1), of(1, 2), nil, false}, {of(1, top), of(1, top), nil, false}, {of(1, 1, 1, 1), of(1, 1, 1, 1), nil, false},
	})
	if got, ok := Minus(Of(3, 1, 3), Of(1, 1)); len(got) != 0 || ok {
		t.Errorf("the example's Minus: %v %v", got, ok)
	}
}

// P8.2: every two of the bags, and of such that may not be.
func TestPairs(t *testing.T) {
	var joined, parted, refused int
	for _, a := range some() {
		for _, b := range some() {
			if holdPair(t, "Join", Join, joinOf, a, b) {
				joined++
			} else {
				refused++
			}
			if holdPair(t, "Minus", Minus, minusOf, a, b) {
				parted++
			}
		}
	}
	if joined == 0 || parted == 0 || refused == 0 {
		t.Errorf("%d joined, %d taken away, %d refused", joined, parted, refused)
	}
}

// many: a bag of that many values, each so far from the one ahead.
func many(size, from, step int64) []api.Run {
	var b []api.Run
	for i := range size {
		b = append(b, api.Run{V: from + i*step, N: i%5 + 1})
	}
	return b
}

// P8.2: bags of many values, between each other, beyond, and partly the same.
func TestPairsOfMany(t *testing.T) {
	for _, a := range [][]api.Run{many(300, -50, 1), many(200, -70, 3), many(100, 10, 7)} {
		for _, b := range [][]api.Run{many(300, -50, 1), many(150, -50, 2), many(90, -400, 2), many(90, 400, 2), many(1, 33, 1), many(200, -71, 3)} {
			holdPair(t, "Join", Join, joinOf, a, b)
			holdPair(t, "Minus", Minus, minusOf, a, b)
			holdPair(t, "Minus", Minus, minusOf, b, a)
		}
	}
}

// P8.4: what was joined is taken away again, either of the two, and nothing is left of a bag without itself.
func TestJoinedIsTakenAway(t *testing.T) {
	held := 0
	for _, a := range some() {
		for _, b := range some() {
			joined, ok := Join(a, b)
			if !ok {
				continue
			}
			held++
			if got, ok := Minus(joined, b); !slices.Equal(got, a) || !ok {
				t.Fatalf("%v joined with %v, and without it: %v %v", a, b, got, ok)
			}
			if got, ok := Minus(joined, a); !slices.Equal(got, b) || !ok {
				t.Fatalf("%v joined with %v, and without the first: %v %v", a, b, got, ok)
			}
			if got, ok := Minus(joined, joined); len(got) != 0 || !ok {
				t.Fatalf("%v without itself: %v %v", joined, got, ok)
			}
		}
	}
	if held < 1000 {
		t.Errorf("only %d were joined", held)
	}
}

// P8.4: the bag of some values, joined with that of others, is the bag of all; and goes again, one value at a time.
func TestJoinedOneByOne(t *testing.T) {
	l := []int64{3, low, -1, 3, top, 0, 3, low, 7, -1}
	b := Of()
	for i, v := range l {
		b, _ = Join(b, Of(v))
		if want := Of(l[:i+1]...); !Same(b, want) {
			t.Fatalf("joined to %v, not %v", b, want)
		}
	}
	for i, v := range l {
		var ok bool
		if b, ok = Minus(b, Of(v)); !ok || !Same(b, Of(l[i+1:]...)) {
			t.Fatalf("without %v: %v %v", l[:i+1], b, ok)
		}
	}
}
