package commute

import (
	"slices"

	"culprit/machine"
)

// A step is what a thread does at once, by the alternative at its point.
type step struct {
	thread, alternative int
	footprint           footprint
}

// A footprint is a list of accesses that can be compared with many others.
type footprint struct {
	accesses []machine.Access
	onClock  bool
	changed  map[object]bool // of the objects that are accessed
}

// An object is what accesses are to.
type object struct{ kind, obj int }

func footprintOf(l []machine.Access) footprint {
	x := footprint{accesses: l, changed: map[object]bool{}}
	for _, a := range l {
		o := object{a.Kind, a.Obj}
		x.changed[o] = x.changed[o] || a.Change
		x.onClock = x.onClock || a.Kind == machine.OnClock
	}
	return x
}

func (x footprint) isApart(y footprint) bool {
	if x.onClock || y.onClock {
		return false
	}
	for _, a := range y.accesses {
		if changed, both := x.changed[object{a.Kind, a.Obj}]; both && (changed || a.Change) {
			return false
		}
	}
	return true
}

func (x step) isApart(y step) bool { return x.thread != y.thread && x.footprint.isApart(y.footprint) }

// canExchange reports whether a run has the steps i and i + 1, and they can be
// exchanged.
func canExchange(steps []step, i int) bool {
	return 0 <= i && i < len(steps)-2 && steps[i].isApart(steps[i+1])
}

func exchange(steps []step, i int) { steps[i], steps[i+1] = steps[i+1], steps[i] }

// normal returns the steps of a run in the order of its normal run.
func normal(steps []step) []step {
	rest := slices.Clone(steps)
	var order []step
	for len(rest) > 0 {
		i := firstOf(rest)
		order = append(order, rest[i])
		rest = slices.Delete(rest, i, i+1)
	}
	return order
}

// firstOf returns the index of the step that comes first in the normal run, of
// those that are not there yet: of those from which all earlier ones are apart,
// that of the least thread; but never the last one ahead of others.
func firstOf(rest []step) int {
	first := 0
	for i, x := range rest[:len(rest)-1] {
		if x.thread < rest[first].thread && !slices.ContainsFunc(rest[:i], func(y step) bool { return !x.isApart(y) }) {
			first = i
		}
	}
	return first
}

// areSame reports whether two runs that begin alike make the same steps, so
// that they are one run.
func areSame(a, b []step) bool {
	return slices.EqualFunc(a, b, func(x, y step) bool { return x.thread == y.thread && x.alternative == y.alternative })
}

// areAlike reports whether two runs have the same normal run.
func areAlike(a, b []step) bool { return areSame(normal(a), normal(b)) }

// wayBetween returns the steps to exchange from a run to one that is alike.
func wayBetween(from, to []step) []int {
	steps := slices.Clone(from)
	var way []int
	for k, x := range to {
		// Those ahead are the same, and so the first one of this thread behind
		// them is the same as x.
		j := k + slices.IndexFunc(steps[k:], func(y step) bool { return y.thread == x.thread })
		for j > k {
			j--
			exchange(steps, j)
			way = append(way, j)
		}
	}
	return way
}
