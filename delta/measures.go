package delta

import (
	"cuboid/api"
	"cuboid/bag"
)

// bags is a bag of each measure.
type bags = [api.MaxMeasures][]api.Run

// each tells what op tells of both, measure by measure, or false where it tells false of one.
func each[T any](op func(a, b T) (T, bool), a, b [api.MaxMeasures]T) ([api.MaxMeasures]T, bool) {
	var all [api.MaxMeasures]T
	for i := range all {
		v, ok := op(a[i], b[i])
		if !ok {
			return [api.MaxMeasures]T{}, false
		}
		all[i] = v
	}
	return all, true
}

// apart tells both without what they have in common, measure by measure; all of them may be.
func apart(a, b bags) (bags, bags) {
	for i := range a {
		both := common(a[i], b[i])
		// What both have, each of them has as often: Minus can't tell false.
		a[i], _ = bag.Minus(a[i], both)
		b[i], _ = bag.Minus(b[i], both)
	}
	return a, b
}

// common tells the values of both, each as often as both have it; both may be.
func common(a, b []api.Run) []api.Run {
	var both []api.Run
	for len(a) > 0 && len(b) > 0 {
		switch {
		case a[0].V < b[0].V:
			a = a[1:]
		case a[0].V > b[0].V:
			b = b[1:]
		default:
			both = append(both, api.Run{V: a[0].V, N: min(a[0].N, b[0].N)})
			a, b = a[1:], b[1:]
		}
	}
	return both
}
