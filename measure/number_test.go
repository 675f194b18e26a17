package measure_test

import (
	"math"
	"math/big"
	"slices"
	"testing"

	"culprit/api"
	"culprit/measure"
	"culprit/ratio"
)

var half = of(1, 2)

// oddMeasure returns shares in the ways and with the costs of four others. The first and the second part are 1/2 together, and so are the third and the fourth one; but the sum of one of the former and one of the latter does not fit.
func oddMeasure(l [4]measure.Share) []measure.Share {
	for i, power := range [2][2]int{{3, 900}, {5, 600}} {
		r, _ := ratio.Power(of(power[0], 1), power[1])
		r, _ = ratio.Div(half, r)
		l[2*i].Part = r
		l[2*i+1].Part, _ = ratio.Sub(half, r)
	}
	return l[:]
}

// exactly expects a number without an error.
func exactly(t *testing.T, what string, r api.Ratio, e api.Errno, want api.Ratio) {
	t.Helper()
	if e != api.OK || !ratio.Same(r, want) {
		t.Errorf("%s: %v, %v; want %v", what, r, e, want)
	}
}

// limited expects ErrLimit, and nothing beside it.
func limited(t *testing.T, what string, r api.Ratio, e api.Errno) {
	t.Helper()
	if e != api.ErrLimit || !ratio.Same(r, api.Ratio{}) {
		t.Errorf("%s: %v, %v; want %v", what, r, e, api.ErrLimit)
	}
}

func TestExamples(t *testing.T) {
	l, _ := testOf(t, "test t { draw $a 3; draw $b 2; check $a * $b < 2; }").whole(t)
	r, e := measure.Fails(l)
	exactly(t, "P11.4: Fails", r, e, of(1, 6))
	r, e = measure.Above(l, 2)
	exactly(t, "P11.4: Above", r, e, of(5, 6))
	r, e = measure.At(l, "t", 0)
	exactly(t, "P11.4: At", r, e, of(1, 6))
	r, e = measure.Mean(l)
	exactly(t, "P11.5: Mean", r, e, of(17, 6))
	for q, want := range map[[2]int]int{{0, 1}: 0, {1, 6}: 2, {1, 5}: 3, {1, 1}: 3} {
		if n, e := measure.Quantile(l, of(q[0], q[1])); n != want || e != api.OK {
			t.Errorf("P11.5: Quantile of %v: %d, %v; want %d", q, n, e, want)
		}
	}
}

func TestNumbers(t *testing.T) {
	l := five()
	r, e := measure.Fails(l)
	exactly(t, "P11.4: Fails", r, e, of(3, 4))
	for _, c := range []struct {
		where string
		site  int
		want  api.Ratio
	}{
		{"p", 1, of(1, 6)}, {"t", 0, of(1, 4)}, {"p", 0, api.Ratio{}}, {"t", 1, api.Ratio{}}, {"", 1, api.Ratio{}},
		{"q", 0, api.Ratio{}}, {"p", -1, api.Ratio{}}, {"", math.MinInt, api.Ratio{}},
		// It fails there in two ways, but what passed is not there.
		{"", 0, of(1, 3)},
	} {
		r, e := measure.At(l, c.where, c.site)
		exactly(t, "P11.4: At", r, e, c.want)
	}
	for n, want := range map[int]api.Ratio{math.MinInt: of(1, 1), -1: of(1, 1), 0: of(13, 15), 1: of(13, 15), 2: of(9, 20), 8: of(9, 20), 9: of(1, 5), 63: of(1, 5), 64: {}, math.MaxInt: {}} {
		r, e := measure.Above(l, n)
		exactly(t, "P11.4: Above", r, e, want)
	}
	// 2/4 + 2/6 + 9/4 + 64/5
	r, e = measure.Mean(l)
	exactly(t, "P11.5: Mean", r, e, of(953, 60))
	for _, c := range []struct {
		q    api.Ratio
		want int
	}{{api.Ratio{}, 0}, {of(2, 15), 0}, {of(9, 67), 2}, {of(11, 20), 2}, {of(12, 20), 9}, {of(4, 5), 9}, {of(5, 6), 64}, {of(1, 1), 64}} {
		if n, e := measure.Quantile(l, c.q); n != c.want || e != api.OK {
			t.Errorf("P11.5: Quantile of %v: %d, %v; want %d", c.q, n, e, c.want)
		}
	}
	for _, c := range []struct {
		q    api.Ratio
		want api.Errno
	}{
		{of(5, 4), api.ErrRange}, {of(2, 1), api.ErrRange}, {of(math.MaxInt, 1), api.ErrRange},
		{api.Ratio{Num: []uint32{2}, Den: []uint32{4}}, api.ErrArg}, {api.Ratio{Num: []uint32{3}, Den: []uint32{1}}, api.ErrArg},
		{api.Ratio{Num: make([]uint32, 65)}, api.ErrLimit}, {api.Ratio{Num: []uint32{9}, Den: make([]uint32, 65)}, api.ErrLimit},
	} {
		if n, e := measure.Quantile(l, c.q); n != 0 || e != c.want {
			t.Errorf("P11.5: Quantile of %v: %d, %v; want %v", c.q, n, e, c.want)
		}
	}
}

// TestManyNumbers: the longest measures are no trouble.
func TestManyNumbers(t *testing.T) {
	l := equalShares(api.MaxGraph)
	r, e := measure.Fails(l)
	exactly(t, "P11.4: Fails", r, e, api.Ratio{})
	r, e = measure.Above(l, 99)
	exactly(t, "P11.4: Above", r, e, of(api.MaxGraph-100, api.MaxGraph))
	r, e = measure.Mean(l)
	exactly(t, "P11.5: Mean", r, e, of(api.MaxGraph-1, 2))
	if n, e := measure.Quantile(l, of(1, 4)); n != api.MaxGraph/4-1 || e != api.OK {
		t.Errorf("P11.5: Quantile: %d, %v", n, e)
	}
}

// A claimed case is a claim, and whether it is true of five().
type claimed struct {
	x    api.Claim
	want bool
	e    api.Errno
}

func claims() []claimed {
	var l []claimed
	// The measure that each claim bounds is this part of 60.
	for _, c := range []struct {
		x    api.Claim
		part int
	}{
		{api.Claim{Kind: api.Fails}, 45}, {api.Claim{Kind: api.Fails, Where: "t", Site: -5, N: 8}, 45},
		{api.Claim{Kind: api.Slow, N: 2}, 27}, {api.Claim{Kind: api.Slow, N: 9, Where: "p", Site: 1}, 12}, {api.Claim{Kind: api.Slow, N: -1}, 60}, {api.Claim{Kind: api.Slow, N: 64}, 0},
		{api.Claim{Kind: api.Other, Where: "p", Site: 1}, 35}, {api.Claim{Kind: api.Other, N: 2}, 25}, {api.Claim{Kind: api.Other, Where: "q"}, 45}, {api.Claim{Kind: api.Other, Where: "p", Site: 2}, 45},
		{api.Claim{Kind: api.Passes}, 15}, {api.Claim{Kind: api.Passes, N: 2, Where: "p", Site: 1}, 15},
	} {
		for n := range 62 {
			x := c.x
			x.Bound = of(n, 60)
			l = append(l, claimed{x, c.part <= n, api.OK})
		}
		c.x.Bound = of(math.MaxInt, 2)
		l = append(l, claimed{c.x, true, api.OK})
		c.x.Test, c.x.Program, c.x.Env = "u", api.Digest{1}, api.Env{Kind: -1}
		l = append(l, claimed{c.x, true, api.OK})
		c.x.Bound = api.Ratio{Den: []uint32{2}}
		l = append(l, claimed{c.x, false, api.ErrArg})
	}
	for _, kind := range []int{-1, api.Claims, math.MinInt, math.MaxInt} {
		l = append(l, claimed{api.Claim{Kind: kind, Bound: half}, false, api.ErrArg}, claimed{api.Claim{Kind: kind, Bound: api.Ratio{Num: make([]uint32, 65)}}, false, api.ErrLimit})
	}
	return l
}

func TestHolds(t *testing.T) {
	for _, c := range claims() {
		if is, e := measure.Holds(five(), c.x); is != c.want || e != c.e {
			t.Errorf("P11.6: Holds of %+v: %v, %v; want %v, %v", c.x, is, e, c.want, c.e)
		}
	}
}

// TestSumsThatDoNotFit: the first error of package ratio.
func TestSumsThatDoNotFit(t *testing.T) {
	// The parts of 1/2 have equal steps, or are at one place, but not both.
	steps := oddMeasure([4]measure.Share{passes(cost(1), half), fails(api.Failed, "p", 0, cost(1), half), fails(api.Stuck, "p", 0, cost(2), half), fails(api.Stuck, "p", 1, cost(2), half)})
	places := oddMeasure([4]measure.Share{fails(api.Failed, "p", 0, cost(1), half), fails(api.Failed, "p", 0, cost(5), half), fails(api.Stuck, "q", 0, cost(1), half), fails(api.Stuck, "q", 0, cost(5), half)})
	r, e := measure.At(steps, "p", 0)
	limited(t, "P11.4: At", r, e)
	r, e = measure.At(steps, "p", 1)
	exactly(t, "P11.4: At", r, e, steps[3].Part)
	r, e = measure.Above(steps, 1)
	exactly(t, "P11.4: Above", r, e, half)
	r, e = measure.Mean(steps)
	exactly(t, "P11.5: Mean", r, e, of(3, 2))
	r, e = measure.At(places, "q", 0)
	exactly(t, "P11.4: At", r, e, half)
	r, e = measure.Above(places, 1)
	limited(t, "P11.4: Above", r, e)
	r, e = measure.Above(places, 5)
	exactly(t, "P11.4: Above", r, e, api.Ratio{})
	r, e = measure.Mean(places)
	limited(t, "P11.5: Mean", r, e)
	long := []measure.Share{passes(cost(math.MaxInt), half), passes(cost(math.MaxInt, 1), half)}
	long[0].Part, _ = ratio.Power(half, 2047)
	long[1].Part, _ = ratio.Sub(of(1, 1), long[0].Part)
	r, e = measure.Mean(long)
	limited(t, "P11.5: Mean of a product that does not fit", r, e)
	for q, want := range map[[2]int]int{{0, 1}: 0, {1, 3}: 1, {1, 2}: 1, {2, 3}: 2, {1, 1}: 2} {
		if n, e := measure.Quantile(steps, of(q[0], q[1])); n != want || e != api.OK {
			t.Errorf("P11.5: Quantile of %v: %d, %v; want %d", q, n, e, want)
		}
		if n, e := measure.Quantile(places, of(q[0], q[1])); n != 0 || e != api.ErrLimit {
			t.Errorf("P11.5: Quantile of %v: %d, %v; want ErrLimit", q, n, e)
		}
	}
	if n, e := measure.Quantile(places, of(3, 2)); n != 0 || e != api.ErrRange {
		t.Errorf("P11.5: Quantile of 3/2: %d, %v; want ErrRange", n, e)
	}
	for _, c := range []struct {
		l    []measure.Share
		x    api.Claim
		want bool
		e    api.Errno
	}{
		{steps, api.Claim{Kind: api.Other, Where: "p", Bound: half}, false, api.ErrLimit},
		// This fits, but what it is taken from does not.
		{steps, api.Claim{Kind: api.Other, Where: "p", Site: 1, Bound: half}, false, api.ErrLimit},
		{steps, api.Claim{Kind: api.Other, Where: "q", Bound: of(1, 1)}, true, api.OK},
		{places, api.Claim{Kind: api.Other, Where: "q", Bound: half}, true, api.OK},
		{places, api.Claim{Kind: api.Slow, N: 1, Bound: half}, false, api.ErrLimit},
		{places, api.Claim{Kind: api.Slow, N: 5, Bound: half}, true, api.OK},
		{places, api.Claim{Kind: api.Slow, N: 1, Bound: api.Ratio{Den: []uint32{2}}}, false, api.ErrArg},
		{places, api.Claim{Kind: api.Claims, Bound: half}, false, api.ErrArg},
	} {
		if is, e := measure.Holds(c.l, c.x); is != c.want || e != c.e {
			t.Errorf("P11.6: Holds of %+v: %v, %v; want %v, %v", c.x, is, e, c.want, c.e)
		}
	}
}

// measure returns a measure by chance; the shares of a test, or others.
func (m maker) measure(t *testing.T) []measure.Share {
	if m.IntN(2) == 0 {
		x := testOf(t, m.texts(onMachines, onFiles, onClocks)...)
		if l, _, e := measure.Whole(x.c, m.env(), nil, 500); e == api.OK {
			return l
		}
	}
	// By their words, so that no way with its cost is there twice.
	ways, weights := map[string]measure.Share{}, map[string]int{}
	var sums [2]int // of what passes, and of what fails
	for range 1 + m.IntN(9) {
		x := fails(m.IntN(api.Outcomes), []string{"", "p", "q"}[m.IntN(3)], m.IntN(2), cost(m.IntN(6), m.IntN(2), m.IntN(2)), half)
		if x.Outcome == api.Passed {
			x.Where, x.Site = "", 0
		}
		w, n := words(x.Outcome, x.Where, x.Site, x.Cost), 1+m.IntN(12)
		ways[w] = x
		weights[w] += n
		sums[min(x.Outcome, 1)] += n
	}
	inHalves := m.IntN(2) == 0 && sums[0]*sums[1] > 0
	var l []measure.Share
	for w, x := range ways {
		if inHalves {
			x.Part = of(weights[w], 2*sums[min(x.Outcome, 1)])
		} else {
			x.Part = of(weights[w], sums[0]+sums[1])
		}
		l = append(l, x)
	}
	slices.SortFunc(l, byFields)
	return l
}

func byFields(a, b measure.Share) int {
	key := func(x measure.Share) []int { return []int{x.Site, x.Cost.Steps, x.Cost.Allocs, x.Cost.Waits} }
	switch {
	case a.Outcome != b.Outcome:
		return a.Outcome - b.Outcome
	case a.Where < b.Where:
		return -1
	case a.Where > b.Where:
		return 1
	}
	return slices.Compare(key(a), key(b))
}

// sum returns the measure of some shares.
func sum(l []measure.Share, is func(x measure.Share) bool) *big.Rat {
	n := new(big.Rat)
	for _, x := range l {
		if is(x) {
			n.Add(n, rational(x.Part))
		}
	}
	return n
}

// TestNumbersByChance compares all numbers with those of the reference, and examines what has to be true of them.
func TestNumbersByChance(t *testing.T) {
	seen := count{}
	for seed := range uint64(300) {
		m := newMaker(seed)
		l := m.measure(t)
		if e := measure.Check(l); e != api.OK {
			t.Fatal("P11.3: Check:", e)
		}
		before := measure.Encode(l)
		checkFails(t, l)
		checkSteps(t, m, l)
		checkClaims(t, m, l, seen)
		if !slices.Equal(measure.Encode(l), before) {
			t.Error("an argument was changed")
		}
		if t.Failed() {
			t.Fatal("the seed is", seed)
		}
	}
	seen.check(t, 30, "holds", "does not hold", "fails with 1/2")
}

// checkFails: what fails is the sum of what fails at each place.
func checkFails(t *testing.T, l []measure.Share) {
	t.Helper()
	r, e := measure.Fails(l)
	fails := sum(l, func(x measure.Share) bool { return x.Outcome != api.Passed })
	exactly(t, "P11.4: Fails", r, e, ratioOf(fails))
	all, places := new(big.Rat), map[[2]any]bool{{"z", 0}: false}
	for _, x := range l {
		places[[2]any{x.Where, x.Site}] = true
	}
	for place := range places {
		where, site := place[0].(string), place[1].(int)
		r, e := measure.At(l, where, site)
		here := sum(l, func(x measure.Share) bool { return x.Outcome != api.Passed && x.Where == where && x.Site == site })
		exactly(t, "P11.4: At", r, e, ratioOf(here))
		all.Add(all, here)
	}
	if all.Cmp(fails) != 0 {
		t.Errorf("P11.10: Fails is %v, the places have %v", fails, all)
	}
}

// checkSteps: Above, Quantile and Mean.
func checkSteps(t *testing.T, m maker, l []measure.Share) {
	t.Helper()
	above := func(n int) *big.Rat {
		want := sum(l, func(x measure.Share) bool { return x.Cost.Steps > n })
		r, e := measure.Above(l, n)
		exactly(t, "P11.4: Above", r, e, ratioOf(want))
		return want
	}
	mean, least, most := new(big.Rat), math.MaxInt, 0
	steps := map[int]bool{}
	for _, x := range l {
		n := x.Cost.Steps
		steps[n] = true
		least, most = min(least, n), max(most, n)
		mean.Add(mean, new(big.Rat).Mul(rational(x.Part), big.NewRat(int64(n), 1)))
	}
	r, e := measure.Mean(l)
	exactly(t, "P11.5: Mean", r, e, ratioOf(mean))
	if mean.Cmp(big.NewRat(int64(least), 1)) < 0 || mean.Cmp(big.NewRat(int64(most), 1)) > 0 {
		t.Errorf("P11.10: the mean %v of steps from %d to %d", mean, least, most)
	}
	qs := []*big.Rat{big.NewRat(0, 1), big.NewRat(1, 1)}
	for range 4 {
		qs = append(qs, big.NewRat(int64(m.IntN(61)), 60))
	}
	for n := range steps { // just what is not above, and a little more
		q := new(big.Rat).Sub(big.NewRat(1, 1), above(n))
		qs = append(qs, q, new(big.Rat).Add(new(big.Rat).Mul(q, big.NewRat(999, 1000)), big.NewRat(1, 1000)))
	}
	slices.SortFunc(qs, (*big.Rat).Cmp)
	last := 0
	for _, q := range qs {
		n, e := measure.Quantile(l, ratioOf(q))
		rest := new(big.Rat).Sub(big.NewRat(1, 1), q)
		if e != api.OK || n < last || n < 0 || above(n).Cmp(rest) > 0 || n > 0 && above(n-1).Cmp(rest) <= 0 {
			t.Errorf("P11.5: Quantile of %v: %d, %v; above are %v", q, n, e, above(n))
		}
		if !steps[n] && q.Sign() > 0 || q.Sign() == 0 && n != 0 {
			t.Errorf("P11.10: Quantile of %v is %d", q, n)
		}
		last = n
	}
}

// checkClaims: claims with bounds around the measure that they bound.
func checkClaims(t *testing.T, m maker, l []measure.Share, seen count) {
	t.Helper()
	fails := sum(l, func(x measure.Share) bool { return x.Outcome != api.Passed })
	some := l[m.IntN(len(l))]
	x := api.Claim{N: m.IntN(7), Where: some.Where, Site: some.Site}
	bounded := [api.Claims]*big.Rat{
		api.Fails:  fails,
		api.Slow:   sum(l, func(y measure.Share) bool { return y.Cost.Steps > x.N }),
		api.Other:  sum(l, func(y measure.Share) bool { return y.Outcome != api.Passed && (y.Where != x.Where || y.Site != x.Site) }),
		api.Passes: sum(l, func(y measure.Share) bool { return y.Outcome == api.Passed }),
	}
	for kind, n := range bounded {
		x.Kind = kind
		bounds := []*big.Rat{new(big.Rat), big.NewRat(int64(m.IntN(61)), 60), big.NewRat(1, 1), n, new(big.Rat).Mul(n, big.NewRat(9, 10)), new(big.Rat).Add(n, big.NewRat(1, 100))}
		slices.SortFunc(bounds, (*big.Rat).Cmp)
		held := false
		for _, bound := range bounds {
			x.Bound = ratioOf(bound)
			is, e := measure.Holds(l, x)
			if e != api.OK || is != (n.Cmp(bound) <= 0) {
				t.Errorf("P11.6: Holds of %+v: %v, %v; it bounds %v", x, is, e, n)
			}
			if held && !is {
				t.Errorf("P11.11: %+v does not hold, but with a lesser bound it does", x)
			}
			held = is
			seen[map[bool]string{true: "holds", false: "does not hold"}[is]]++
		}
	}
	a, _ := measure.Holds(l, api.Claim{Kind: api.Fails, Bound: half})
	b, _ := measure.Holds(l, api.Claim{Kind: api.Passes, Bound: half})
	if is := fails.Cmp(big.NewRat(1, 2)) == 0; is != (a && b) {
		t.Errorf("P11.11: Fails and Passes of 1/2: %v, %v; it fails with %v", a, b, fails)
	} else if is {
		seen["fails with 1/2"]++
	}
}

// TestMemoryOfNumbers: results are new memory.
func TestMemoryOfNumbers(t *testing.T) {
	one := []measure.Share{fails(api.Failed, "p", 0, cost(1), of(1, 1))}
	for _, l := range [][]measure.Share{five(), one} {
		before := measure.Encode(l)
		a, _ := measure.Fails(l)
		b, _ := measure.At(l, "p", 0)
		c, _ := measure.Above(l, 0)
		d, _ := measure.Mean(l)
		for _, r := range []api.Ratio{a, b, c, d} {
			for _, limbs := range [][]uint32{r.Num, r.Den} {
				for i := range limbs {
					limbs[i] = 99
				}
			}
		}
		if !slices.Equal(measure.Encode(l), before) {
			t.Error("a result shares memory with an argument")
		}
	}
}
