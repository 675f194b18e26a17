package measure

import (
	"slices"
	"sort"

	"culprit/api"
	"culprit/ratio"
)

// Fails returns the measure of failing.
func Fails(l []Share) (api.Ratio, api.Errno) { return ofMeasure(l, fails) }

// At returns the measure of failing at a place.
func At(l []Share, where string, site int) (api.Ratio, api.Errno) {
	return ofMeasure(l, func(l []Share) (api.Ratio, api.Errno) { return at(l, where, site) })
}

// Above returns the measure of making more steps than some number.
func Above(l []Share, steps int) (api.Ratio, api.Errno) {
	return ofMeasure(l, func(l []Share) (api.Ratio, api.Errno) { return above(l, steps) })
}

// Mean returns how many steps runs make, on average.
func Mean(l []Share) (api.Ratio, api.Errno) { return ofMeasure(l, mean) }

// ofMeasure returns what a function returns for a list of shares that is a
// measure.
func ofMeasure(l []Share, number func(l []Share) (api.Ratio, api.Errno)) (api.Ratio, api.Errno) {
	if e := Check(l); e != api.OK {
		return api.Ratio{}, e
	}
	return number(l)
}

// Quantile returns the least number of steps such that the measure of making
// no more of them is at least q.
func Quantile(l []Share, q api.Ratio) (int, api.Errno) {
	if e := Check(l); e != api.OK {
		return 0, e
	}
	// Sub has just the errors that are due for q.
	rest, e := ratio.Sub(one(), q)
	if e != api.OK {
		return 0, e
	}
	return leastWith(l, rest)
}

// leastWith returns the least number of steps above which there is at most a
// measure. All sums of which the chapter speaks have to fit, but only few of
// them are needed.
func leastWith(l []Share, rest api.Ratio) (int, api.Errno) {
	steps := []int{0}
	for _, x := range l {
		steps = append(steps, x.Cost.Steps)
	}
	slices.Sort(steps)
	steps = slices.Compact(steps)
	if !fitTogether(l) {
		for _, n := range steps {
			if _, e := above(l, n); e != api.OK {
				return 0, e
			}
		}
	}
	// With more steps, less is above them; above the most steps is nothing.
	return steps[sort.Search(len(steps), func(i int) bool {
		r, _ := above(l, steps[i])
		return isAtMost(r, rest)
	})], api.OK
}

// fitTogether reports whether the parts of a measure have a common denominator
// that fits: then each sum of some of them does.
func fitTogether(l []Share) bool {
	common := one()
	for _, x := range l {
		r, e := ratio.Mul(x.Part, common)
		if e == api.OK && len(r.Den) > 0 {
			common, e = ratio.Mul(common, api.Ratio{Num: r.Den})
		}
		if e != api.OK {
			return false
		}
	}
	return true
}

// Holds reports whether a claim is true of a measure.
func Holds(l []Share, x api.Claim) (bool, api.Errno) {
	if e := Check(l); e != api.OK {
		return false, e
	}
	if e := ratio.Valid(x.Bound); e != api.OK {
		return false, e
	}
	r, e := claimed(l, x)
	return e == api.OK && isAtMost(r, x.Bound), e
}

// claimed returns the measure of which a claim says how great it is at most.
func claimed(l []Share, x api.Claim) (api.Ratio, api.Errno) {
	switch x.Kind {
	case api.Fails:
		return fails(l)
	case api.Slow:
		return above(l, x.N)
	case api.Other:
		return failsElsewhere(l, x.Where, x.Site)
	case api.Passes:
		return oneLess(fails(l))
	}
	return api.Ratio{}, api.ErrArg
}

func fails(l []Share) (api.Ratio, api.Errno) {
	return oneLess(sumOf(l, func(x Share) bool { return x.Outcome == api.Passed }))
}

func at(l []Share, where string, site int) (api.Ratio, api.Errno) {
	return sumOf(l, func(x Share) bool { return x.Outcome != api.Passed && x.Where == where && x.Site == site })
}

func failsElsewhere(l []Share, where string, site int) (api.Ratio, api.Errno) {
	all, e := fails(l)
	if e != api.OK {
		return api.Ratio{}, e
	}
	here, e := at(l, where, site)
	if e != api.OK {
		return api.Ratio{}, e
	}
	return ratio.Sub(all, here)
}

func above(l []Share, steps int) (api.Ratio, api.Errno) {
	return sumOf(l, func(x Share) bool { return x.Cost.Steps > steps })
}

func mean(l []Share) (api.Ratio, api.Errno) {
	var products []api.Ratio
	for _, x := range l {
		steps, e := ratio.Of(x.Cost.Steps, 1)
		if e != api.OK {
			return api.Ratio{}, e
		}
		r, e := ratio.Mul(steps, x.Part)
		if e != api.OK {
			return api.Ratio{}, e
		}
		products = append(products, r)
	}
	return ratio.Sum(products)
}

// sumOf returns the measure of some of the shares.
func sumOf(l []Share, isOne func(x Share) bool) (api.Ratio, api.Errno) {
	var parts []api.Ratio
	for _, x := range l {
		if isOne(x) {
			parts = append(parts, x.Part)
		}
	}
	return ratio.Sum(parts)
}

// oneLess returns 1 less a number that was found, if there was no error.
func oneLess(r api.Ratio, e api.Errno) (api.Ratio, api.Errno) {
	if e != api.OK {
		return api.Ratio{}, e
	}
	return ratio.Sub(one(), r)
}

// isAtMost compares two numbers that are valid.
func isAtMost(a, b api.Ratio) bool {
	n, _ := ratio.Cmp(a, b)
	return n <= 0
}
