package measure_test

import (
	"math"
	"slices"
	"testing"

	"culprit/api"
	"culprit/measure"
	"culprit/ratio"
	"culprit/wire"
)

// five is a measure with all outcomes.
func five() []measure.Share {
	return []measure.Share{
		passes(cost(2), of(1, 4)),
		fails(api.Failed, "p", 1, cost(2, 5), of(1, 6)),
		fails(api.Stuck, "t", 0, cost(9, 0, 3), of(1, 4)),
		fails(api.Late, "", 0, cost(64), of(1, 5)),
		fails(api.Broken, "", 0, cost(), of(2, 15)),
	}
}

// equalShares returns n shares of 1/n, with different steps.
func equalShares(n int) []measure.Share {
	var l []measure.Share
	for i := range n {
		l = append(l, passes(cost(i), of(1, n)))
	}
	return l
}

// A change makes another list of a measure.
type change struct {
	what string
	do   func(l []measure.Share) []measure.Share
}

// inShare is a change of one share.
func inShare(what string, i int, do func(x *measure.Share)) change {
	return change{what, func(l []measure.Share) []measure.Share {
		do(&l[i])
		return l
	}}
}

// wrong are changes that make a list of which Check returns ErrArg.
func wrong() []change {
	l := []change{
		{"no shares", func([]measure.Share) []measure.Share { return nil }},
		{"the first one is missing", func(l []measure.Share) []measure.Share { return l[1:] }},
		{"the last one is missing", func(l []measure.Share) []measure.Share { return l[:4] }},
		{"one is there twice", func(l []measure.Share) []measure.Share { return slices.Insert(l, 3, l[2]) }},
		{"one is there in two halves", func(l []measure.Share) []measure.Share {
			l[0].Part = of(1, 8)
			return slices.Insert(l, 0, l[0])
		}},
		{"two are exchanged", func(l []measure.Share) []measure.Share { l[1], l[2] = l[2], l[1]; return l }},
		{"one with the part 0", func(l []measure.Share) []measure.Share {
			return slices.Insert(l, 4, fails(api.Late, "", 1, cost(), api.Ratio{}))
		}},
		inShare("a passed one with a Where", 0, func(x *measure.Share) { x.Where = "t" }),
		inShare("a passed one with a Site", 0, func(x *measure.Share) { x.Site = 1 }),
		inShare("a great part", 0, func(x *measure.Share) { x.Part = of(1, 3) }),
		inShare("a part that is too great", 4, func(x *measure.Share) { x.Part = of(17, 15) }),
		inShare("a part not in lowest terms", 0, func(x *measure.Share) { x.Part = api.Ratio{Num: []uint32{2}, Den: []uint32{8}} }),
		inShare("a part with a leading nought", 0, func(x *measure.Share) { x.Part = api.Ratio{Num: []uint32{1, 0}, Den: []uint32{4}} }),
		inShare("a part with too many limbs", 0, func(x *measure.Share) { x.Part = api.Ratio{Num: make([]uint32, 65)} }),
	}
	for _, n := range []int{-1, math.MinInt} {
		l = append(l,
			inShare("Outcome", 0, func(x *measure.Share) { x.Outcome = n }),
			inShare("Site", 1, func(x *measure.Share) { x.Site = n }),
			inShare("Steps", 1, func(x *measure.Share) { x.Cost.Steps = n }),
			inShare("Allocs", 1, func(x *measure.Share) { x.Cost.Allocs = n }),
			inShare("Waits", 4, func(x *measure.Share) { x.Cost.Waits = n }),
		)
	}
	for _, n := range []int{api.Outcomes, 6, math.MaxInt} {
		l = append(l, inShare("Outcome", 4, func(x *measure.Share) { x.Outcome = n }))
	}
	return l
}

func TestCheck(t *testing.T) {
	for _, l := range [][]measure.Share{
		five(),
		{passes(cost(), of(1, 1))},
		{fails(api.Broken, "\xff\x00", math.MaxInt, cost(math.MaxInt, math.MaxInt, math.MaxInt), of(1, 1))},
		equalShares(6),
		equalShares(api.MaxGraph),
	} {
		if e := measure.Check(l); e != api.OK {
			t.Errorf("P11.3: Check of %d shares: %v", len(l), e)
		}
	}
	for _, c := range wrong() {
		refusedByAll(t, c.what, c.do(five()), api.ErrArg)
	}
	unfit := oddMeasure([4]measure.Share{passes(cost(1), half), passes(cost(3), half), passes(cost(2), half), passes(cost(4), half)})
	refusedByAll(t, "parts whose sum does not fit on the way", unfit, api.ErrArg)
	refusedByAll(t, "16385 shares", equalShares(api.MaxGraph+1), api.ErrLimit)
	refusedByAll(t, "16385 shares, none of them right", make([]measure.Share, api.MaxGraph+1), api.ErrLimit)
}

// refusedByAll expects an error of Check, and that all other functions return it, too, ahead of their own ones.
func refusedByAll(t *testing.T, what string, l []measure.Share, want api.Errno) {
	t.Helper()
	if e := measure.Check(l); e != want {
		t.Errorf("P11.3: Check: %s: %v; want %v", what, e, want)
	}
	for name, f := range map[string]func() (api.Ratio, api.Errno){
		"Fails": func() (api.Ratio, api.Errno) { return measure.Fails(l) },
		"At":    func() (api.Ratio, api.Errno) { return measure.At(l, "t", 0) },
		"Above": func() (api.Ratio, api.Errno) { return measure.Above(l, 1) },
		"Mean":  func() (api.Ratio, api.Errno) { return measure.Mean(l) },
	} {
		if r, e := f(); e != want || !ratio.Same(r, api.Ratio{}) {
			t.Errorf("P11.4, P11.5: %s: %s: %v, %v; want %v", name, what, r, e, want)
		}
	}
	tooLong := api.Ratio{Num: make([]uint32, 65)}
	for _, q := range []api.Ratio{of(1, 2), of(2, 1), {Den: []uint32{2}}, tooLong} {
		if n, e := measure.Quantile(l, q); n != 0 || e != want {
			t.Errorf("P11.5: Quantile: %s: %v, %v; want %v", what, n, e, want)
		}
		for _, kind := range []int{api.Fails, api.Slow, api.Other, api.Passes, api.Claims} {
			if is, e := measure.Holds(l, api.Claim{Kind: kind, Bound: q}); is || e != want {
				t.Errorf("P11.6: Holds: %s: %v, %v; want %v", what, is, e, want)
			}
		}
	}
}

// TestOrder: shares differ in one field and are in order, or are exchanged.
func TestOrder(t *testing.T) {
	x := fails(api.Failed, "p", 3, cost(3, 3, 3), of(1, 2))
	for _, c := range []struct {
		field string
		do    func(x *measure.Share)
	}{
		{"Outcome", func(x *measure.Share) { *x = fails(api.Stuck, "a", 0, cost(), x.Part) }},
		{"Where", func(x *measure.Share) { *x = fails(api.Failed, "pa", 0, cost(), x.Part) }},
		{"Where, byte by byte", func(x *measure.Share) { *x = fails(api.Failed, "q", 0, cost(), x.Part) }},
		{"Where, behind ASCII", func(x *measure.Share) { *x = fails(api.Failed, "\xc3", 0, cost(), x.Part) }},
		{"Site", func(x *measure.Share) { *x = fails(api.Failed, "p", 4, cost(), x.Part) }},
		{"Steps", func(x *measure.Share) { x.Cost = cost(10, 0, 0) }},
		{"Allocs", func(x *measure.Share) { x.Cost = cost(3, 4, 0) }},
		{"Waits", func(x *measure.Share) { x.Cost = cost(3, 3, 4) }},
	} {
		y := x
		c.do(&y)
		if e := measure.Check([]measure.Share{x, y}); e != api.OK {
			t.Errorf("P11.3: %s: %v", c.field, e)
		}
		if e := measure.Check([]measure.Share{y, x}); e != api.ErrArg {
			t.Errorf("P11.3: %s, exchanged: %v", c.field, e)
		}
		y.Part = of(1, 3)
		if e := measure.Check([]measure.Share{x, y}); e != api.ErrArg {
			t.Errorf("P11.3: %s, with the sum 5/6: %v", c.field, e)
		}
	}
}

func TestSameAndEncode(t *testing.T) {
	if !slices.Equal(measure.Encode(nil), wire.Int(0)) || !measure.Same(nil, []measure.Share{}) {
		t.Error("P11.7: the empty list")
	}
	// They need not be a measure.
	lists := [][]measure.Share{nil, five(), five()[1:3], five()[:1], {{}}, {{}, {}}, make([]measure.Share, api.MaxGraph+1)}
	for i, change := range []func(x *measure.Share){
		func(x *measure.Share) { x.Outcome = -3 },
		func(x *measure.Share) { x.Where = "q" },
		func(x *measure.Share) { x.Site-- },
		func(x *measure.Share) { x.Cost.Steps = math.MinInt },
		func(x *measure.Share) { x.Cost.Allocs++ },
		func(x *measure.Share) { x.Cost.Waits += 256 },
		func(x *measure.Share) { x.Part = of(1, 5) },
		func(x *measure.Share) { x.Part.Num = []uint32{1, 0} },
		func(x *measure.Share) { x.Part.Den = nil },
		func(x *measure.Share) { x.Part.Den = make([]uint32, 70) },
	} {
		l := five()
		change(&l[i%2+1])
		lists = append(lists, l)
	}
	for i, a := range lists {
		want := wire.Int(len(a))
		for _, x := range a {
			want = slices.Concat(want, wire.Ints([]int{x.Outcome, x.Site, x.Cost.Steps, x.Cost.Allocs, x.Cost.Waits}), wire.Strings([]string{x.Where}), ratio.Encode(x.Part))
		}
		if b := measure.Encode(a); !slices.Equal(b, want) {
			t.Errorf("P11.7: Encode of the list %d: %v; want %v", i, b, want)
		}
		for j, b := range lists {
			if is := measure.Same(a, b); is != (i == j) {
				t.Errorf("P11.7: Same of the lists %d and %d: %v", i, j, is)
			}
		}
		if !measure.Same(a, slices.Clone(a)) {
			t.Errorf("P11.7: the list %d is not the same as itself", i)
		}
	}
	want := []byte{129, 1, 129, 5, 129, 1, 129, 2, 129, 3, 128, 128, 129, 1, 129, 1, 'p', 129, 1, 129, 1, 129, 1, 129, 6}
	if b := measure.Encode([]measure.Share{fails(api.Failed, "p", 2, cost(3), of(1, 6))}); !slices.Equal(b, want) {
		t.Errorf("P11.7: Encode: %v; want %v", b, want)
	}
}
