package row

import (
	"bytes"
	"math"
	"math/big"
	"slices"
	"testing"

	"cuboid/api"
	"cuboid/samples"
)

const most = api.MaxMass

// of: a row of two dimensions.
func of(a, b uint8, first, second int64) api.Row {
	return api.Row{At: api.Coord{a, b}, M: [api.MaxMeasures]int64{first, second}}
}

// numbers: about 0, about the turns of a byte and of the digits, about MaxMass, at both ends of 64 bits; rising.
func numbers() []int64 {
	return []int64{
		math.MinInt64, math.MinInt64 + 1, -most - 1, -most, -most + 1, math.MinInt32, -300, -256, -65, -64, -63, -2, -1,
		0, 1, 2, 62, 63, 64, 127, 128, 255, 256, 300, math.MaxInt32, 1 << 32, most - 1, most, most + 1, math.MaxInt64 - 1, math.MaxInt64,
	}
}

// goodOf: what the chapter says of Good, of a good c.
func goodOf(c api.Catalog, r api.Row) bool {
	return samples.IsPlace(c, api.Node{}, r.At) && (c.Measures == 2 || r.M[1] == 0)
}

func holdGood(t *testing.T, c api.Catalog, r api.Row) {
	t.Helper()
	if got, want := Good(c, r), goodOf(c, r); got != want {
		t.Fatalf("Good(%v, %v): %v", c, r, got)
	}
}

// P7.1: each place of the finest node, and those beside it: a member too many, something beyond the dimensions; with
// one measure and with as many as there may be, those beyond the catalog's 0 and not.
func TestGood(t *testing.T) {
	for _, c := range samples.Goods() {
		places := samples.Places(c, api.Node{})
		places = append(places, samples.Spoilt(places[len(places)-1])...)
		for c.Measures = 1; c.Measures <= api.MaxMeasures; c.Measures++ {
			for _, at := range places {
				for _, v := range []int64{math.MinInt64, -1, 0, 1, math.MaxInt64} {
					holdGood(t, c, api.Row{At: at, M: [api.MaxMeasures]int64{v, 0}})
					holdGood(t, c, api.Row{At: at, M: [api.MaxMeasures]int64{0, v}})
					holdGood(t, c, api.Row{At: at, M: [api.MaxMeasures]int64{v, -7}})
				}
			}
		}
	}
}

// P7.1: each member that a byte can name, in each dimension.
func TestGoodOfAllMembers(t *testing.T) {
	c := samples.Catalog(1, samples.Dim(samples.InTurn, 4, 2), samples.Dim(samples.Last, 3, 40), samples.Dim(samples.InTurn, 40))
	sizes := [api.MaxDims]int{4, 3, 40, 1}
	for dim, size := range sizes {
		for m := range 256 {
			var r api.Row
			r.At[dim] = uint8(m)
			if got := Good(c, r); got != (m < size) {
				t.Errorf("Good of the member %d of %d in dimension %d: %v", m, size, dim, got)
			}
		}
	}
}

// P7.1: no row may be of a catalog that may not be, whatever its measures are.
func TestGoodOfBads(t *testing.T) {
	for i, c := range samples.Bads() {
		for _, r := range []api.Row{{}, of(1, 0, 1, 0), of(0, 0, 0, 1), of(0, 1, math.MinInt64, math.MaxInt64), of(40, 40, 0, 0)} {
			if Good(c, r) {
				t.Errorf("bad %d: %v may be", i, r)
			}
		}
	}
}

// rising: rows, each of which comes ahead of all behind it: by the first byte, by each other one, by the first measure,
// by the second.
func rising() []api.Row {
	const low, high = math.MinInt64, math.MaxInt64
	return []api.Row{
		of(0, 0, low, low), of(0, 0, low, low+1), of(0, 0, low, -1), of(0, 0, low, 0), of(0, 0, low, high), of(0, 0, low+1, low),
		of(0, 0, -256, 5), of(0, 0, -1, high), of(0, 0, 0, -1), {}, of(0, 0, 0, 1), of(0, 0, 1, low), of(0, 0, 255, 0), of(0, 0, 256, 0), of(0, 0, high, low), of(0, 0, high, high),
		{At: api.Coord{0, 0, 0, 1}, M: [api.MaxMeasures]int64{low, low}}, {At: api.Coord{0, 0, 0, 255}}, {At: api.Coord{0, 0, 1, 0}}, {At: api.Coord{0, 0, 255, 0}},
		of(0, 1, -9, -9), {At: api.Coord{0, 1, 2, 3}}, {At: api.Coord{0, 1, 3, 2}}, of(0, 2, 0, 0), of(0, 127, 0, 0), of(0, 128, 0, 0),
		of(1, 0, -9, -9), of(1, 0, -9, -8), of(1, 0, -8, -9), of(127, 255, 0, 0), of(128, 0, 0, 0), of(255, 0, low, low), {At: api.Coord{255, 255, 255, 255}, M: [api.MaxMeasures]int64{high, high}},
	}
}

// P7.1: by the place, by the first measure, by the second; rows that are alike are not Less.
func TestLess(t *testing.T) {
	all := rising()
	for i, a := range all {
		for k, b := range all {
			if got := Less(a, b); got != (i < k) {
				t.Errorf("Less(%v, %v): %v", a, b, got)
			}
		}
	}
}

// lessOf: what the chapter says of Less.
func lessOf(a, b api.Row) bool {
	if a.At != b.At {
		return bytes.Compare(a.At[:], b.At[:]) < 0
	}
	if a.M[0] != b.M[0] {
		return a.M[0] < b.M[0]
	}
	return a.M[1] < b.M[1]
}

// P7.1: numbers at both ends of 64 bits, in both measures.
func TestLessOfNumbers(t *testing.T) {
	var all []api.Row
	for _, v := range numbers() {
		all = append(all, of(1, 1, v, 5), of(1, 1, 5, v), of(1, 2, v, -v))
	}
	for _, a := range all {
		for _, b := range all {
			if got := Less(a, b); got != lessOf(a, b) {
				t.Errorf("Less(%v, %v): %v", a, b, got)
			}
		}
	}
}

// sortedOf: all of l, each put ahead of the first one that it comes ahead of.
func sortedOf(l []api.Row) []api.Row {
	var all []api.Row
	for _, r := range l {
		i := slices.IndexFunc(all, func(other api.Row) bool { return lessOf(r, other) })
		if i < 0 {
			i = len(all)
		}
		all = slices.Insert(all, i, r)
	}
	return all
}

func holdSort(t *testing.T, l []api.Row) {
	t.Helper()
	if got, want := Sort(l), sortedOf(l); !slices.Equal(got, want) {
		t.Fatalf("Sort(%v): %v, not %v", l, got, want)
	}
}

// turned: l from the last one on.
func turned(l []api.Row) []api.Row {
	l = slices.Clone(l)
	slices.Reverse(l)
	return l
}

// mixed: all of l, each 1 to that many times, in an order of its own.
func mixed(l []api.Row, times int) []api.Row {
	var all []api.Row
	for i := range l {
		for range i%times + 1 {
			all = append(all, l[(i*17+5)%len(l)])
		}
	}
	return all
}

// P7.1: none, one, rising, falling, mixed, rows that stand several times.
func TestSort(t *testing.T) {
	all := rising()
	for _, l := range [][]api.Row{nil, {}} {
		if got := Sort(l); len(got) != 0 {
			t.Errorf("Sort of none: %v", got)
		}
	}
	for _, r := range all {
		holdSort(t, []api.Row{r})
		holdSort(t, []api.Row{r, r, r})
	}
	for n := range len(all) + 1 {
		holdSort(t, all[:n])
		holdSort(t, turned(all[:n]))
	}
	for times := 1; times < 6; times++ {
		holdSort(t, mixed(all, times))
		holdSort(t, slices.Repeat(mixed(all, times), 3))
	}
	if got := Sort(turned(all)); !slices.Equal(got, all) {
		t.Errorf("Sort of what falls: %v", got)
	}
	if got, want := Sort(slices.Repeat([]api.Row{all[8], all[1]}, 50)), slices.Concat(slices.Repeat(all[1:2], 50), slices.Repeat(all[8:9], 50)); !slices.Equal(got, want) {
		t.Errorf("Sort of two rows, 50 times each: %v", got)
	}
}

// P7.1: all lists of a few rows, up to some length.
func TestSortOfAll(t *testing.T) {
	some := []api.Row{of(0, 1, 0, 0), of(0, 0, 1, -1), of(0, 0, 1, 0), of(0, 0, -1, 5)}
	lists := [][]api.Row{nil}
	for range 5 {
		var longer [][]api.Row
		for _, l := range lists {
			for _, r := range some {
				longer = append(longer, append(slices.Clone(l), r))
			}
		}
		lists = longer
		for _, l := range lists {
			holdSort(t, l)
		}
	}
}

// P7.1: more rows than are sorted one by one.
func TestSortOfMany(t *testing.T) {
	var l []api.Row
	for i := range 3000 {
		n := i * 7919 % 3001
		l = append(l, of(uint8(n%3), uint8(n%7), int64(n%11)-5, int64(n%13)-6))
	}
	holdSort(t, l)
	holdSort(t, Sort(l))
	holdSort(t, turned(Sort(l)))
}

// massOf: what the chapter says of Mass, by numbers without an end.
func massOf(l []api.Row) ([api.MaxMeasures]int64, bool) {
	var mass [api.MaxMeasures]int64
	for i := range mass {
		sum := new(big.Int)
		for _, r := range l {
			v := big.NewInt(r.M[i])
			sum.Add(sum, v.Abs(v))
		}
		if sum.Cmp(big.NewInt(most)) > 0 {
			return [api.MaxMeasures]int64{}, false
		}
		mass[i] = sum.Int64()
	}
	return mass, true
}

func holdMass(t *testing.T, l ...api.Row) {
	t.Helper()
	want, is := massOf(l)
	if got, ok := Mass(l...); got != want || ok != is {
		t.Fatalf("Mass(%v): %v %v, not %v %v", l, got, ok, want, is)
	}
}

// P7.2: some written out: none, below and above 0, just MaxMass and one more, in either measure.
func TestMass(t *testing.T) {
	for _, x := range []struct {
		l    []api.Row
		want [api.MaxMeasures]int64
		ok   bool
	}{
		{nil, [2]int64{}, true},
		{[]api.Row{{}}, [2]int64{}, true},
		{[]api.Row{of(0, 0, 5, -3)}, [2]int64{5, 3}, true},
		{[]api.Row{of(0, 0, 5, -3), of(9, 9, -5, 3), of(9, 9, -5, 3)}, [2]int64{15, 9}, true},
		{[]api.Row{of(0, 0, most, -most)}, [2]int64{most, most}, true},
		{[]api.Row{of(0, 0, most-1, 1-most), of(255, 255, -1, 1)}, [2]int64{most, most}, true},
		{[]api.Row{of(0, 0, most+1, 5)}, [2]int64{}, false},
		{[]api.Row{of(0, 0, 5, most+1)}, [2]int64{}, false},
		{[]api.Row{of(0, 0, -most-1, 5)}, [2]int64{}, false},
		{[]api.Row{of(0, 0, 5, -most-1)}, [2]int64{}, false},
		{[]api.Row{of(0, 0, most, 5), of(0, 0, -1, 5)}, [2]int64{}, false},
		{[]api.Row{of(0, 0, 5, most), of(0, 0, 5, -1)}, [2]int64{}, false},
		{[]api.Row{of(0, 0, 1, -1), of(0, 0, 0, most)}, [2]int64{}, false},
		{[]api.Row{of(0, 0, math.MinInt64, 5)}, [2]int64{}, false},
		{[]api.Row{of(0, 0, 5, math.MinInt64)}, [2]int64{}, false},
		{[]api.Row{of(0, 0, math.MinInt64, 0), of(0, 0, math.MinInt64, 0), of(0, 0, 5, 5)}, [2]int64{}, false},
	} {
		if got, ok := Mass(x.l...); got != x.want || ok != x.ok {
			t.Errorf("Mass(%v): %v %v, not %v %v", x.l, got, ok, x.want, x.ok)
		}
	}
	if got, ok := Mass(); got != ([api.MaxMeasures]int64{}) || !ok {
		t.Errorf("Mass of none: %v %v", got, ok)
	}
}

// P7.2: one, two and three of the numbers, in either measure.
func TestMassOfNumbers(t *testing.T) {
	for _, a := range numbers() {
		holdMass(t, of(0, 0, a, 0))
		holdMass(t, of(0, 0, 0, a))
		for _, b := range numbers() {
			holdMass(t, of(0, 0, a, b))
			holdMass(t, of(0, 0, a, 3), of(0, 0, b, -3))
			holdMass(t, of(0, 0, 3, a), of(0, 0, -3, b))
			for _, c := range numbers() {
				holdMass(t, of(0, 0, a, 1), of(1, 1, b, 1), of(2, 2, c, 1))
			}
		}
	}
}

// P7.2: sums that would come back to a small number, were they to go round.
func TestMassOfMany(t *testing.T) {
	for n := range 40 {
		for _, v := range []int64{math.MinInt64, -most, most / 4, most, math.MaxInt64} {
			holdMass(t, slices.Repeat([]api.Row{of(0, 0, v, 1)}, n)...)
			holdMass(t, slices.Repeat([]api.Row{of(0, 0, 1, v)}, n)...)
		}
	}
	holdMass(t, slices.Repeat([]api.Row{of(1, 2, most/4096, -most/4096)}, 4096)...)
	holdMass(t, slices.Repeat([]api.Row{of(1, 2, most/4096, -most/4096)}, 4097)...)
}
