package bag

import (
	"math/big"
	"testing"

	"cuboid/api"
)

// sumOf: what the chapter says of Sum, by numbers without an end.
func sumOf(b []api.Run) (int64, bool) {
	if !goodOf(b) {
		return 0, false
	}
	sum := new(big.Int)
	for _, r := range b {
		sum.Add(sum, new(big.Int).Mul(big.NewInt(r.V), big.NewInt(r.N)))
	}
	if !sum.IsInt64() {
		return 0, false
	}
	return sum.Int64(), true
}

func holdSum(t *testing.T, b []api.Run) bool {
	t.Helper()
	want, is := sumOf(b)
	if got, ok := Sum(b); got != want || ok != is {
		t.Fatalf("Sum(%v): %d %v, not %d %v", b, got, ok, want, is)
	}
	return is
}

// P8.3: of one run, of many; 0 and false of nothing, and of what may not be.
func TestEnds(t *testing.T) {
	for _, b := range goods() {
		least, ok := Least(b)
		greatest, is := Greatest(b)
		if len(b) == 0 {
			if least != 0 || greatest != 0 || ok || is {
				t.Errorf("of nothing: %d %v, %d %v", least, ok, greatest, is)
			}
			continue
		}
		if least != b[0].V || greatest != b[len(b)-1].V || !ok || !is {
			t.Errorf("%v: from %d %v to %d %v", b, least, ok, greatest, is)
		}
	}
	for _, b := range bads() {
		if v, ok := Least(b); v != 0 || ok {
			t.Errorf("Least(%v): %d %v", b, v, ok)
		}
		if v, ok := Greatest(b); v != 0 || ok {
			t.Errorf("Greatest(%v): %d %v", b, v, ok)
		}
	}
}

// P8.3: when the least value goes, the next one is known; the greatest likewise.
func TestEndsStayKnown(t *testing.T) {
	l := []int64{low, -5, 0, 3, 9, top}
	for from := range l {
		for to := from + 1; to <= len(l); to++ {
			gone := append(append([]int64{}, l[:from]...), l[to:]...)
			b, ok := Minus(Of(l...), Of(gone...))
			least, isLeast := Least(b)
			greatest, isGreatest := Greatest(b)
			if !ok || !isLeast || !isGreatest || least != l[from] || greatest != l[to-1] {
				t.Errorf("without %v: from %d %v to %d %v", gone, least, isLeast, greatest, isGreatest)
			}
		}
	}
}

// P8.3: some written out: the example, below and above 0, both ends, wholes that are no int64, sums on the way that are none.
func TestSum(t *testing.T) {
	for _, x := range []struct {
		b    []api.Run
		want int64
		ok   bool
	}{
		{nil, 0, true}, {Of(3, 1, 3), 7, true}, {of(0, most), 0, true}, {of(-4, 5), -20, true}, {of(-7, 1, 7, 1), 0, true}, {of(-7, 2, 3, 4), -2, true},
		{of(top, 1), top, true}, {of(low, 1), low, true}, {of(top, 2), 0, false}, {of(low, 2), 0, false}, {of(1, 1, top, 1), 0, false}, {of(low, 1, -1, 1), 0, false},
		{of(1, 1, top-1, 1), top, true}, {of(low+1, 1, -1, 1), low, true}, {of(2, 1, top-1, 1), 0, false}, {of(low+1, 1, -2, 1), 0, false},
		{of(low, 1, top, 1), -1, true}, {of(low, 2, top, 2), -2, true}, {of(low, 3, 1, 2, top, 3), -1, true}, {of(low, 1, top, 2), top - 1, true}, {of(low, 1, 1, 1, top, 2), top, true}, {of(low, 1, 2, 1, top, 2), 0, false},
		{of(low, 2, top, 1), 0, false}, {of(low, 2, 1, 1, top, 1), low, true}, {of(low, most/2, top, most/2), -most / 2, true}, {of(low, most/2-1, top, most/2), top - most/2 + 1, true}, {of(low, most/2-1, top, most/2+1), 0, false},
		{of(-1<<23, most), low, true}, {of(1<<23, most), 0, false}, {of(1<<23, most-1), top - (1<<23 - 1), true}, {of(1<<23-1, 1, 1<<23, most-1), top, true}, {of(1<<23-1, most), top - most + 1, true},
		{of(-1<<23-1, 1, -1<<23, most-1), 0, false}, {of(-1<<23, most-1, 1-1<<23, 1), low + 1, true}, {of(1<<24, most), 0, false}, {of(1<<40, most), 0, false}, {of(top, most), 0, false}, {of(low, most), 0, false},
	} {
		if got, ok := Sum(x.b); got != x.want || ok != x.ok {
			t.Errorf("Sum(%v): %d %v, not %d %v", x.b, got, ok, x.want, x.ok)
		}
	}
}

// P8.3: all bags of the others' tests, and 0 and false of such that may not be.
func TestSumOfSome(t *testing.T) {
	for _, b := range some() {
		holdSum(t, b)
	}
	for _, b := range bads() {
		if v, ok := Sum(b); v != 0 || ok {
			t.Errorf("Sum(%v): %d %v", b, v, ok)
		}
	}
}

// powers: the powers of two below MaxCount and beyond, those beside them, and the same below 0; rising.
func powers() []int64 {
	var up, down []int64
	for bit := range 63 {
		for _, v := range []int64{1<<bit - 1, 1 << bit, 1<<bit + 1} {
			up, down = append(up, v), append(down, -v)
		}
	}
	return valuesOf(of(low, 1, low+1, 1, top, 1), Of(up...), Of(down...))
}

// P8.3: every two of the powers, in numbers that carry from one end of a word to the other.
func TestSumOfPowers(t *testing.T) {
	numbers := []int64{1, 2, 3, 1 << 18, 1<<22 - 1, 1 << 22, 1<<39 - 1, most / 2, most - 1}
	all := powers()
	fits, beyond := 0, 0
	for i, x := range all {
		for _, y := range all[i+1:] {
			for _, n := range numbers {
				if holdSum(t, []api.Run{{V: x, N: n}, {V: y, N: most - n}}) {
					fits++
				} else {
					beyond++
				}
				holdSum(t, []api.Run{{V: x, N: n}, {V: y, N: 1}})
			}
		}
	}
	if fits == 0 || beyond == 0 {
		t.Errorf("%d fit, %d do not", fits, beyond)
	}
}

// P8.3: wholes that are just an int64 and wholes that just are none, at either end, behind sums on the way that are
// far from one.
func TestSumAtTheEnds(t *testing.T) {
	for _, n := range []int64{1, 2, 1000, 1 << 20, 1 << 30, 1<<38 + 1} {
		for _, k := range []int64{-2, -1, 0, 1, 2} {
			// The ends come to -n together, so the whole is about top, and about low.
			holdSum(t, []api.Run{{V: low, N: n}, {V: n + k, N: 1}, {V: top - 1, N: 1}, {V: top, N: n}})
			holdSum(t, []api.Run{{V: low, N: n}, {V: low + n + 1, N: 1}, {V: k - 5, N: 1}, {V: 3, N: 1}, {V: top, N: n}})
			holdSum(t, []api.Run{{V: low, N: n + 1}, {V: n + k, N: 1}, {V: top, N: n}})
		}
	}
}

// P8.3: bags of many values, whose wholes are sums of many small and many great ones.
func TestSumOfMany(t *testing.T) {
	for _, step := range []int64{1, 1 << 20, 1 << 30, 1 << 45, 1 << 53} {
		for _, from := range []int64{low, -500 * step, -1, 0, top - 1000*step} {
			b := many(1000, from, step)
			if !goodOf(b) {
				t.Fatalf("from %d in steps of %d: no bag", from, step)
			}
			holdSum(t, b)
		}
	}
}

// netOf: what a comes to less what b comes to, by numbers without an end.
func netOf(a, b []api.Run) (int64, bool) {
	if !goodOf(a) || !goodOf(b) {
		return 0, false
	}
	net := new(big.Int)
	for _, r := range a {
		net.Add(net, new(big.Int).Mul(big.NewInt(r.V), big.NewInt(r.N)))
	}
	for _, r := range b {
		net.Sub(net, new(big.Int).Mul(big.NewInt(r.V), big.NewInt(r.N)))
	}
	if !net.IsInt64() {
		return 0, false
	}
	return net.Int64(), true
}

func holdNet(t *testing.T, a, b []api.Run) bool {
	t.Helper()
	want, is := netOf(a, b)
	if got, ok := Net(a, b); got != want || ok != is {
		t.Fatalf("Net(%v, %v): %d %v, not %d %v", a, b, got, ok, want, is)
	}
	return is
}

// Beside the chapter: some written out: one or both of them no int64 by itself, values of both, both ends, what may not be.
func TestNet(t *testing.T) {
	for _, x := range []struct {
		a, b []api.Run
		want int64
		ok   bool
	}{
		{nil, nil, 0, true}, {Of(5), nil, 5, true}, {nil, Of(5), -5, true}, {Of(5), Of(3), 2, true}, {Of(3), Of(5), -2, true}, {Of(3, 1, 3), Of(3, 1, 3), 0, true}, {of(-4, 5), of(-7, 2, 3, 4), -18, true},
		{of(top, 2), of(top-1, 2), 2, true}, {of(low, 2), of(low+1, 2), -2, true}, {of(1, 1, top, 1), Of(2), top - 1, true}, {of(-7, 1), of(low, 1, -1, 1), top - 5, true}, {of(top, most), of(top-1, most), most, true}, {of(low, most), of(low+1, most), -most, true}, {of(top, most), of(top, most), 0, true}, {of(low, most), of(low, most), 0, true},
		{nil, of(-top, 1), top, true}, {nil, of(low, 1), 0, false}, {Of(-1), of(low, 1), top, true}, {Of(0), of(low, 1), 0, false}, {nil, of(top, 1), -top, true}, {Of(-1), of(top, 1), low, true}, {Of(-2), of(top, 1), 0, false}, {of(top, 1), Of(-1), 0, false}, {of(top, 1), Of(1), top - 1, true}, {of(low, 1), Of(1), 0, false}, {of(low, 1), Of(-1), low + 1, true},
		{of(top, 2), Of(top), top, true}, {of(top, 2), of(top-1, 1), 0, false}, {of(low, 2), Of(low), low, true}, {of(low, 2), Of(low + 1), 0, false}, {of(top, most), of(low, most), 0, false}, {of(low, most), of(top, most), 0, false}, {of(-1<<23, most), nil, low, true}, {nil, of(-1<<23, most), 0, false}, {nil, of(1<<23, most), low, true}, {nil, of(1<<23, most-1, 1<<23+1, 1), 0, false},
		{of(1, 0), nil, 0, false}, {nil, of(1, 0), 0, false}, {of(1, 1, 1, 1), of(1, 1, 1, 1), 0, false}, {of(0, most+1), nil, 0, false}, {nil, of(0, most+1), 0, false}, {of(2, 1, 1, 1), Of(1), 0, false}, {Of(1), of(2, 1, 1, 1), 0, false}, {Of(1), of(1, -1), 0, false},
	} {
		if got, ok := Net(x.a, x.b); got != x.want || ok != x.ok {
			t.Errorf("Net(%v, %v): %d %v, not %d %v", x.a, x.b, got, ok, x.want, x.ok)
		}
	}
}

// Every two of the bags, and of such that may not be.
func TestNetOfSome(t *testing.T) {
	fits, not := 0, 0
	for _, a := range some() {
		for _, b := range some() {
			if holdNet(t, a, b) {
				fits++
			} else {
				not++
			}
		}
	}
	if fits < 1000 || not < 1000 {
		t.Errorf("%d fit, %d do not", fits, not)
	}
}

// Every two of the powers, as often as MaxCount, where the parts of a net are the greatest.
func TestNetOfPowers(t *testing.T) {
	for _, v := range powers() {
		for _, w := range powers() {
			holdNet(t, of(v, most), of(w, most))
			holdNet(t, of(v, most-1), of(w, most))
			holdNet(t, of(v, most), of(w, 1))
			holdNet(t, of(v, 1), of(w, 1))
		}
	}
}

// Nets about the last int64 and about the least one, of sums that are far from any.
func TestNetAtTheEnds(t *testing.T) {
	for _, n := range []int64{1, 2, 1000, 1 << 20, 1 << 30, 1<<38 + 1} {
		for _, k := range []int64{-2, -1, 0, 1, 2} {
			// What the ends come to is top and n, or low less n, and the value beside them takes n back, but k.
			holdNet(t, of(k-n, 1, top, n+1), of(top-1, n))
			holdNet(t, of(top-1, n), of(k-n, 1, top, n+1))
			holdNet(t, of(low, n+1, k+n, 1), of(low+1, n))
			holdNet(t, of(low+1, n), of(low, n+1, k+n, 1))
		}
	}
}
