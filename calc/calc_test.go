package calc

import (
	"math"
	"math/big"
	"slices"
	"testing"
)

const (
	top = math.MaxInt64
	low = math.MinInt64
)

// edges: small numbers, and those beside which a sum or a product stops fitting.
func edges() []int64 {
	l := []int64{0, 3037000499, 3037000500, -3037000500, 715827883}
	for _, v := range []int64{1, 2, 3, 7, 1<<31 - 1, 1 << 31, 1<<32 - 1, 1 << 32, 1<<32 + 1, 1 << 61, 1<<62 - 1, 1 << 62, 1<<62 + 1, top - 1, top} {
		l = append(l, v, -v)
	}
	return append(l, low)
}

// fitted: what a call should tell of the number itself.
func fitted(n *big.Int) (int64, bool) {
	if !n.IsInt64() {
		return 0, false
	}
	return n.Int64(), true
}

func holdTwo(t *testing.T, name string, told func(a, b int64) (int64, bool), itself func(z, x, y *big.Int) *big.Int) {
	t.Helper()
	fits, beyond := 0, 0
	for _, a := range edges() {
		for _, b := range edges() {
			want, wantOK := fitted(itself(new(big.Int), big.NewInt(a), big.NewInt(b)))
			if got, ok := told(a, b); got != want || ok != wantOK {
				t.Errorf("%s(%d, %d): %d %v, not %d %v", name, a, b, got, ok, want, wantOK)
			}
			if wantOK {
				fits++
			} else {
				beyond++
			}
		}
	}
	if fits == 0 || beyond == 0 {
		t.Errorf("%s: the edges try %d that fit and %d that do not", name, fits, beyond)
	}
}

type pair struct {
	a, b, want int64
	ok         bool
}

func holdPairs(t *testing.T, name string, told func(a, b int64) (int64, bool), l []pair) {
	t.Helper()
	for _, x := range l {
		if got, ok := told(x.a, x.b); got != x.want || ok != x.ok {
			t.Errorf("%s(%d, %d): %d %v, not %d %v", name, x.a, x.b, got, ok, x.want, x.ok)
		}
	}
}

// P1.1: the sum, or 0 and false.
func TestAdd(t *testing.T) {
	holdPairs(t, "Add", Add, []pair{
		{2, 3, 5, true}, {-2, 3, 1, true}, {0, 0, 0, true}, {top, 0, top, true}, {low, 0, low, true},
		{top - 1, 1, top, true}, {low + 1, -1, low, true}, {top, low, -1, true},
		{top, 1, 0, false}, {1, top, 0, false}, {low, -1, 0, false}, {top, top, 0, false}, {low, low, 0, false},
	})
	holdTwo(t, "Add", Add, (*big.Int).Add)
}

// P1.1: the difference, or 0 and false.
func TestSub(t *testing.T) {
	holdPairs(t, "Sub", Sub, []pair{
		{5, 3, 2, true}, {3, 5, -2, true}, {low, low, 0, true}, {top, top, 0, true}, {-1, low, top, true},
		{low + 1, 1, low, true}, {top - 1, -1, top, true}, {top, 0, top, true}, {low, 0, low, true},
		{low, 1, 0, false}, {top, -1, 0, false}, {0, low, 0, false}, {top, low, 0, false}, {low, top, 0, false},
	})
	holdTwo(t, "Sub", Sub, (*big.Int).Sub)
}

// P1.1: the product, or 0 and false, also where what is left of it in 64 bits looks sound.
func TestMul(t *testing.T) {
	holdPairs(t, "Mul", Mul, []pair{
		{6, 7, 42, true}, {-6, 7, -42, true}, {-6, -7, 42, true}, {0, low, 0, true}, {top, 0, 0, true},
		{low, 1, low, true}, {1, low, low, true}, {top, -1, -top, true}, {-1 << 32, 1 << 31, low, true},
		{1 << 31, 1 << 31, 1 << 62, true}, {1 << 62, -2, low, true},
		{low, -1, 0, false}, {-1, low, 0, false}, {1 << 32, 1 << 31, 0, false}, {1 << 62, 2, 0, false},
		{1 << 32, 1 << 32, 0, false}, {1 << 33, 1 << 33, 0, false}, {1<<32 + 1, 1<<32 + 1, 0, false},
		{low, low, 0, false}, {top, top, 0, false}, {low, top, 0, false}, {low, 2, 0, false},
	})
	holdTwo(t, "Mul", Mul, (*big.Int).Mul)
}

// P1.1: 0 less a, which only -2^63 has none of.
func TestNeg(t *testing.T) {
	for _, a := range edges() {
		want, wantOK := fitted(new(big.Int).Neg(big.NewInt(a)))
		if got, ok := Neg(a); got != want || ok != wantOK {
			t.Errorf("Neg(%d): %d %v, not %d %v", a, got, ok, want, wantOK)
		}
	}
	if got, ok := Neg(low); got != 0 || ok {
		t.Errorf("Neg(%d): %d %v, not 0 false", int64(low), got, ok)
	}
}

// P1.1: a without its sign, that of -2^63 too.
func TestSize(t *testing.T) {
	for _, a := range edges() {
		want := new(big.Int).Abs(big.NewInt(a)).Uint64()
		if got := Size(a); got != want {
			t.Errorf("Size(%d): %d, not %d", a, got, want)
		}
	}
	if got := Size(low); got != 1<<63 {
		t.Errorf("Size(%d): %d, not 2^63", int64(low), got)
	}
}

// P1.2: the sum, whatever sums there are on the way.
func TestTotal(t *testing.T) {
	for _, x := range []struct {
		l    []int64
		want int64
		ok   bool
	}{
		{nil, 0, true},
		{[]int64{}, 0, true},
		{[]int64{low}, low, true},
		{[]int64{3, -9, 4}, -2, true},
		{[]int64{top, 1, -1}, top, true},
		{[]int64{low, -1, 1}, low, true},
		{[]int64{top, top, top, low, low, low}, -3, true},
		{[]int64{low, low, low, top, top, top}, -3, true},
		{[]int64{top, top, 2, low, low}, 0, true},
		{[]int64{top, 1}, 0, false},
		{[]int64{low, -1}, 0, false},
		{[]int64{low, low}, 0, false},
		{[]int64{top, top, 2}, 0, false},
		{[]int64{low, low, low, low}, 0, false},
	} {
		if got, ok := Total(x.l...); got != x.want || ok != x.ok {
			t.Errorf("Total(%d): %d %v, not %d %v", x.l, got, ok, x.want, x.ok)
		}
	}
	if got, ok := Total(); got != 0 || !ok {
		t.Errorf("Total(): %d %v, not 0 true", got, ok)
	}
}

// P1.2: every three of the edges, held against the sum itself.
func TestTotalOfThree(t *testing.T) {
	for _, a := range edges() {
		for _, b := range edges() {
			two := new(big.Int).Add(big.NewInt(a), big.NewInt(b))
			for _, c := range edges() {
				want, wantOK := fitted(new(big.Int).Add(two, big.NewInt(c)))
				if got, ok := Total(a, b, c); got != want || ok != wantOK {
					t.Fatalf("Total(%d, %d, %d): %d %v, not %d %v", a, b, c, got, ok, want, wantOK)
				}
			}
		}
	}
}

// P1.2: a long way up, and all of it down again.
func TestTotalOfMany(t *testing.T) {
	const times = 100000
	up := slices.Repeat([]int64{top}, times)
	down := slices.Repeat([]int64{-top}, times)
	there := slices.Concat(up, down, []int64{5})
	if got, ok := Total(there...); got != 5 || !ok {
		t.Errorf("up and down: %d %v, not 5 true", got, ok)
	}
	back := slices.Concat(down, []int64{-5}, up)
	if got, ok := Total(back...); got != -5 || !ok {
		t.Errorf("down and up: %d %v, not -5 true", got, ok)
	}
	if got, ok := Total(up...); got != 0 || ok {
		t.Errorf("up alone: %d %v, not 0 false", got, ok)
	}
}

// What is handed in stays as it is, what lies in the list's spare room too.
func TestTotalLeavesItsList(t *testing.T) {
	whole := []int64{4, top, low, 11, 12}
	Total(whole[:3]...)
	if want := []int64{4, top, low, 11, 12}; !slices.Equal(whole, want) {
		t.Errorf("the list is %d, not %d", whole, want)
	}
}

// P1.3: the products themselves are compared, however large.
func TestCmp(t *testing.T) {
	for _, x := range []struct {
		a, b, c, d int64
		want       int
	}{
		{3, 5, 2, 8, -1}, {2, 6, 3, 4, 0}, {3, 6, 2, 8, 1}, {-3, 5, 2, 8, -1}, {-3, 5, -2, 8, 1},
		{0, low, top, 0, 0}, {0, 1, 1, 1, -1}, {0, 1, -1, 1, 1},
		{low, low, top, top, 1}, {low, top, top, low, 0}, {low, top, low, low, -1}, {low, top, low + 1, top, -1},
		{1 << 32, 1 << 32, 0, 0, 1}, {1 << 32, 1 << 32, 1 << 33, 1 << 31, 0}, {-1 << 32, 1 << 32, low, 1, -1},
		{1 << 62, 4, 1 << 61, 7, 1}, {low, -1, top, 1, 1}, {low, low, low, low, 0},
	} {
		if got := Cmp(x.a, x.b, x.c, x.d); got != x.want {
			t.Errorf("Cmp(%d, %d, %d, %d): %d, not %d", x.a, x.b, x.c, x.d, got, x.want)
		}
	}
}

// P1.3: every four of the edges, held against the products themselves.
func TestCmpOfEdges(t *testing.T) {
	type factors struct {
		a, b    int64
		product *big.Int
	}
	var all []factors
	for _, a := range edges() {
		for _, b := range edges() {
			all = append(all, factors{a, b, new(big.Int).Mul(big.NewInt(a), big.NewInt(b))})
		}
	}
	for _, x := range all {
		for _, y := range all {
			if got, want := Cmp(x.a, x.b, y.a, y.b), x.product.Cmp(y.product); got != want {
				t.Fatalf("Cmp(%d, %d, %d, %d): %d, not %d", x.a, x.b, y.a, y.b, got, want)
			}
		}
	}
}
