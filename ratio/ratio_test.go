package ratio_test

import (
	"math"
	"math/big"
	"math/rand/v2"
	"runtime"
	"slices"
	"strconv"
	"strings"
	"testing"

	"culprit/api"
	"culprit/ratio"
	"culprit/wire"
)

func of(num []uint32, den ...uint32) api.Ratio { return api.Ratio{Num: num, Den: den} }

// read returns the ratio with a printed form.
func read(t *testing.T, s string) api.Ratio {
	t.Helper()
	r, e := refParse(s)
	if e != api.OK {
		t.Fatalf("%.40q: error %d", s, e)
	}
	return r
}

// power returns n to the power of k, plus more.
func power(n, k, more int64) *big.Int {
	x := new(big.Int).Exp(big.NewInt(n), big.NewInt(k), nil)
	return x.Add(x, big.NewInt(more))
}

// fibonacci returns two numbers of Fibonacci's, one after the other: Euclid's algorithm needs most steps for them.
func fibonacci(n int) (*big.Int, *big.Int) {
	a, b := big.NewInt(0), big.NewInt(1)
	for range n {
		a, b = b, new(big.Int).Add(a, b)
	}
	return a, b
}

func quotient(t *testing.T, num, den *big.Int) api.Ratio {
	t.Helper()
	r, e := refRatio(new(big.Rat).SetFrac(num, den))
	if e != api.OK {
		t.Fatalf("%d bits divided by %d bits: error %d", num.BitLen(), den.BitLen(), e)
	}
	return r
}

// known returns valid ratios of all kinds, among them those at the edge of what fits.
func known(t *testing.T) []api.Ratio {
	t.Helper()
	var l []api.Ratio
	for _, s := range []string{"0", "1", "2", "3", "10", "1/2", "1/3", "2/3", "3/2", "1/6", "1/10", "7/5", "255/256", "4294967295", "4294967296", "1/4294967295", "1/4294967296", "4294967295/4294967296", "4294967297/4294967296", "9223372036854775807", "9223372036854775808", "18446744073709551615", "18446744073709551616", "18446744073709551616/18446744073709551615", "18446744073709551615/4294967296", "1/79228162514264337593543950336"} {
		l = append(l, read(t, s))
	}
	one, top, half := big.NewInt(1), power(2, 2048, -1), power(2, 2047, 0)
	low, high := fibonacci(2949)
	for _, x := range [][2]*big.Int{{top, one}, {one, top}, {half, one}, {one, half}, {top, half}, {half, top}, {power(2, 2047, 1), top}, {power(2, 2048, -3), power(2, 2048, -5)}, {power(3, 1292, 0), power(2, 2047, 0)}, {power(2, 1024, 1), power(2, 1024, -1)}, {low, high}, {high, low}, {power(10, 616, 0), one}, {power(7, 729, 0), power(11, 592, 0)}} {
		l = append(l, quotient(t, x[0], x[1]))
	}
	r := rand.New(rand.NewPCG(5, 1))
	for _, most := range []int{20, 64, 130, 600, 2048} {
		for range 4 {
			l = append(l, chance(r, most))
		}
	}
	return l
}

type invalid struct {
	r api.Ratio
	e api.Errno
}

// invalids returns ratios that are not valid, with their errors.
func invalids() []invalid {
	long, full := make([]uint32, 65), slices.Repeat([]uint32{maxLimb}, 64)
	long[64] = 1
	return []invalid{
		{of([]uint32{0}), api.ErrArg},
		{of([]uint32{1, 0}), api.ErrArg},
		{of(make([]uint32, 64)), api.ErrArg},
		{of([]uint32{3}, 2, 0), api.ErrArg},
		{of([]uint32{3}, 0), api.ErrArg},
		{of([]uint32{3}, 0, 0), api.ErrArg},
		{of([]uint32{3, 0}, 2), api.ErrArg},
		{of([]uint32{3}, 1), api.ErrArg},
		{of([]uint32{3}, 1, 0), api.ErrArg},
		{of(nil, 1), api.ErrArg},
		{of(nil, 2), api.ErrArg},
		{of(nil, 0, 1), api.ErrArg},
		{of([]uint32{}, 0), api.ErrArg},
		{of([]uint32{2}, 4), api.ErrArg},
		{of([]uint32{4}, 2), api.ErrArg},
		{of([]uint32{7}, 7), api.ErrArg},
		{of([]uint32{0, 1}, 6), api.ErrArg},
		{of([]uint32{0, 2}, 0, 3), api.ErrArg},
		{of(full, full...), api.ErrArg},
		{of(full, 3), api.ErrArg},
		{of(long), api.ErrLimit},
		{of(make([]uint32, 65)), api.ErrLimit},
		{of([]uint32{1}, long...), api.ErrLimit},
		{of([]uint32{0}, long...), api.ErrLimit},
		{of(nil, long...), api.ErrLimit},
		{of(long, 1), api.ErrLimit},
		{of(long, 0), api.ErrLimit},
		{of(slices.Repeat(long, 2), long...), api.ErrLimit},
		{of(make([]uint32, 1<<12)), api.ErrLimit},
	}
}

func short(r api.Ratio) string {
	s := refPrint(r)
	if len(s) > 60 {
		return s[:25] + ".." + s[len(s)-25:] + " (" + strconv.Itoa(len(r.Num)) + ", " + strconv.Itoa(len(r.Den)) + " limbs)"
	}
	return s
}

func clone(r api.Ratio) api.Ratio {
	return api.Ratio{Num: slices.Clone(r.Num), Den: slices.Clone(r.Den)}
}

func equal(a, b api.Ratio) bool { return slices.Equal(a.Num, b.Num) && slices.Equal(a.Den, b.Den) }

func checkRatio(t *testing.T, what string, got api.Ratio, e api.Errno, want api.Ratio, wantError api.Errno) {
	t.Helper()
	if e != wantError || !equal(got, want) {
		t.Errorf("%s: %s, error %d; want %s, error %d", what, short(got), e, short(want), wantError)
	}
}

// operation is one of the functions of two ratios that return a third one.
type operation struct {
	promise string
	do      func(a, b api.Ratio) (api.Ratio, api.Errno)
	ref     func(z, a, b *big.Rat) *big.Rat
}

var operations = []operation{
	{"P5.4: Add", ratio.Add, (*big.Rat).Add},
	{"P5.4: Sub", ratio.Sub, (*big.Rat).Sub},
	{"P5.4: Mul", ratio.Mul, (*big.Rat).Mul},
	{"P5.4: Div", ratio.Div, (*big.Rat).Quo},
}

// check compares an operation with Go's own numbers.
func (o operation) check(t *testing.T, a, b api.Ratio) {
	t.Helper()
	x, y := clone(a), clone(b)
	got, e := o.do(a, b)
	want, wantError := api.Ratio{}, api.ErrRange
	if o.promise != "P5.4: Div" || len(b.Num) > 0 {
		want, wantError = refRatio(o.ref(new(big.Rat), refFraction(a), refFraction(b)))
	}
	checkRatio(t, o.promise+" of "+short(a)+" and "+short(b), got, e, want, wantError)
	if !equal(a, x) || !equal(b, y) {
		t.Errorf("%s of %s and %s changed them", o.promise, short(x), short(y))
	}
}

// pairs calls f with pairs of ratios of all kinds.
func pairs(t *testing.T, f func(a, b api.Ratio)) {
	l := known(t)
	for _, a := range l {
		for _, b := range l {
			f(a, b)
		}
	}
	r := rand.New(rand.NewPCG(5, 2))
	for _, most := range []int{8, 33, 64, 65, 100, 128, 300, 1000, 1024, 2048} {
		for range 150 {
			f(chance(r, most), chance(r, most))
			f(chance(r, most), chance(r, 2048))
		}
	}
}

func TestValid(t *testing.T) {
	for i, x := range invalids() {
		if e := ratio.Valid(x.r); e != x.e {
			t.Errorf("P5.1: Valid of the invalid ratio %d: error %d, want %d", i, e, x.e)
		}
	}
	for _, r := range known(t) {
		if e := ratio.Valid(r); e != api.OK {
			t.Errorf("P5.1: Valid of %s: error %d", short(r), e)
		}
	}
	for i, r := range []api.Ratio{{}, of([]uint32{}, []uint32{}...), of([]uint32{1}), of([]uint32{0, 1}), of([]uint32{1}, 2), of([]uint32{1}, 0, 1), of([]uint32{1}, maxLimb), of([]uint32{1, 1}, 2), of(append(make([]uint32, 63), 1)), of([]uint32{1}, append(make([]uint32, 63), 1)...)} {
		if e := ratio.Valid(r); e != api.OK {
			t.Errorf("P5.1: Valid of the valid ratio %d: error %d", i, e)
		}
	}
}

// TestValidOfAllShort compares Valid for all short lists of some limbs.
func TestValidOfAllShort(t *testing.T) {
	lists := [][]uint32{nil}
	limbs := []uint32{0, 1, 2, 3, 6, 1 << 31, maxLimb}
	for _, x := range limbs {
		lists = append(lists, []uint32{x})
		for _, y := range limbs {
			lists = append(lists, []uint32{x, y}, []uint32{x, 0, y}, []uint32{0, y, x})
		}
	}
	for _, num := range lists {
		for _, den := range lists {
			r := of(num, den...)
			if e := ratio.Valid(r); e != refValid(r) {
				t.Errorf("P5.1: Valid of %v and %v: error %d, want %d", num, den, e, refValid(r))
			}
		}
	}
}

// TestValidOfCommonDivisors multiplies the numerator and the denominator of valid ratios by something.
func TestValidOfCommonDivisors(t *testing.T) {
	r := rand.New(rand.NewPCG(5, 3))
	for i := range 2000 {
		x := chance(r, 2000)
		if i%2 == 0 {
			x = chance(r, 100)
		}
		if len(x.Den) == 0 {
			continue
		}
		m := noisy(r, 2+r.IntN(40))
		y := of(refLimbs(new(big.Int).Mul(refNumber(x.Num), m)), refLimbs(new(big.Int).Mul(refNumber(x.Den), m))...)
		if e := ratio.Valid(x); e != api.OK {
			t.Errorf("P5.1: Valid of %s: error %d", short(x), e)
		}
		if e := ratio.Valid(y); e != api.ErrArg {
			t.Errorf("P5.1: Valid of %s, both times %v: error %d", short(x), m, e)
		}
	}
}

func checkOf(t *testing.T, n, d int) {
	t.Helper()
	got, e := ratio.Of(n, d)
	want, wantError := api.Ratio{}, api.ErrRange
	if n >= 0 && d > 0 {
		want, wantError = refRatio(big.NewRat(int64(n), int64(d)))
	}
	checkRatio(t, "P5.2: Of "+strconv.Itoa(n)+" and "+strconv.Itoa(d), got, e, want, wantError)
}

func TestOf(t *testing.T) {
	for n := -3; n < 70; n++ {
		for d := -3; d < 70; d++ {
			checkOf(t, n, d)
		}
	}
	edges := []int{math.MinInt, math.MinInt + 1, -1 << 32, -1, 0, 1, 2, 1<<31 - 1, 1 << 31, 1<<32 - 1, 1 << 32, 1<<32 + 1, 1 << 62, 3 << 40, math.MaxInt - 1, math.MaxInt}
	for _, n := range edges {
		for _, d := range edges {
			checkOf(t, n, d)
		}
	}
	r, e := ratio.Of(6, 4)
	checkRatio(t, "P5.2: Of(6, 4)", r, e, of([]uint32{3}, 2), api.OK)
	r, e = ratio.Of(4, 2)
	checkRatio(t, "P5.2: Of(4, 2)", r, e, of([]uint32{2}), api.OK)
	g := rand.New(rand.NewPCG(5, 4))
	for range 3000 {
		checkOf(t, int(g.Uint64()>>1)>>g.IntN(63), int(g.Uint64()>>1)>>g.IntN(63))
	}
}

func TestCmp(t *testing.T) {
	pairs(t, func(a, b api.Ratio) {
		n, e := ratio.Cmp(a, b)
		if want := refFraction(a).Cmp(refFraction(b)); n != want || e != api.OK {
			t.Errorf("P5.3: Cmp of %s and %s: %d, error %d, want %d", short(a), short(b), n, e, want)
		}
		if n, e := ratio.Cmp(a, clone(a)); n != 0 || e != api.OK {
			t.Errorf("P5.3: Cmp of %s with itself: %d, error %d", short(a), n, e)
		}
	})
}

// TestCmpOfNeighbours compares numbers that differ as little as possible.
func TestCmpOfNeighbours(t *testing.T) {
	low, high := fibonacci(2948)
	sum := new(big.Int).Add(low, high)
	a, b := quotient(t, low, high), quotient(t, high, sum)
	want := refFraction(a).Cmp(refFraction(b))
	if n, e := ratio.Cmp(a, b); n != want || e != api.OK {
		t.Errorf("P5.3: %d, error %d, want %d", n, e, want)
	}
	if n, e := ratio.Cmp(b, a); n != -want || e != api.OK {
		t.Errorf("P5.3: %d, error %d, want %d", n, e, -want)
	}
}

func TestOperations(t *testing.T) {
	for _, o := range operations {
		pairs(t, func(a, b api.Ratio) { o.check(t, a, b) })
	}
	for _, x := range []struct {
		o          operation
		a, b, want string
	}{
		{operations[0], "1/6", "1/10", "4/15"}, {operations[1], "1/6", "1/10", "1/15"}, {operations[1], "3/4", "3/4", "0"}, {operations[0], "1/2", "1/2", "1"}, {operations[0], "4294967295", "1", "4294967296"}, {operations[1], "18446744073709551616", "1", "18446744073709551615"}, {operations[2], "0", "7/9", "0"}, {operations[2], "2/3", "3/2", "1"}, {operations[3], "2/3", "2/3", "1"}, {operations[3], "0", "5", "0"},
	} {
		r, e := x.o.do(read(t, x.a), read(t, x.b))
		checkRatio(t, x.o.promise+" of "+x.a+" and "+x.b, r, e, read(t, x.want), api.OK)
	}
	for _, s := range []string{"0", "1", "5/7"} {
		r, e := ratio.Div(read(t, s), api.Ratio{})
		checkRatio(t, "P5.4: Div by 0 of "+s, r, e, api.Ratio{}, api.ErrRange)
	}
	r, e := ratio.Sub(read(t, "1/10"), read(t, "1/6"))
	checkRatio(t, "P5.4: Sub of 1/10 and 1/6", r, e, api.Ratio{}, api.ErrRange)
}

// TestOperationsAtTheLimit names what just fits, and what just does not.
func TestOperationsAtTheLimit(t *testing.T) {
	one, two := big.NewInt(1), big.NewInt(2)
	top, half := quotient(t, power(2, 2048, -1), one), quotient(t, power(2, 2047, 0), one)
	near, small := quotient(t, power(2, 2048, -2), one), quotient(t, one, two)
	least, odd := quotient(t, one, power(2, 2047, 0)), quotient(t, one, power(2, 2047, 1))
	number := func(s string) api.Ratio { return read(t, s) }
	for i, x := range []struct {
		o    int
		a, b api.Ratio
		e    api.Errno
	}{
		{0, near, number("1"), api.OK}, {0, top, number("1"), api.ErrLimit}, {0, top, api.Ratio{}, api.OK}, {0, half, half, api.ErrLimit}, {0, half, small, api.ErrLimit}, {0, half, least, api.ErrLimit}, {0, least, least, api.OK}, {0, least, odd, api.ErrLimit}, {0, top, top, api.ErrLimit},
		{1, top, number("1"), api.OK}, {1, top, top, api.OK}, {1, top, small, api.ErrLimit}, {1, small, top, api.ErrRange}, {1, odd, least, api.ErrRange}, {1, least, odd, api.ErrLimit}, {1, half, least, api.ErrLimit}, {1, least, least, api.OK},
		{2, half, number("2"), api.ErrLimit}, {2, half, number("3/2"), api.OK}, {2, least, small, api.ErrLimit}, {2, least, number("2"), api.OK}, {2, half, least, api.OK}, {2, top, top, api.ErrLimit}, {2, top, api.Ratio{}, api.OK}, {2, odd, least, api.ErrLimit},
		{3, half, small, api.ErrLimit}, {3, half, half, api.OK}, {3, top, half, api.OK}, {3, top, least, api.ErrLimit}, {3, least, least, api.OK}, {3, small, half, api.ErrLimit}, {3, small, top, api.ErrLimit}, {3, number("1"), top, api.OK}, {3, top, api.Ratio{}, api.ErrRange}, {3, least, number("2"), api.ErrLimit},
	} {
		o := operations[x.o]
		if _, e := o.do(x.a, x.b); e != x.e {
			t.Errorf("%s, case %d: error %d, want %d", o.promise, i, e, x.e)
		}
		o.check(t, x.a, x.b)
	}
}

// TestArguments checks that the error of Valid comes first, that of the first ratio before that of the second one.
func TestArguments(t *testing.T) {
	bad := invalids()
	good := []api.Ratio{{}, of([]uint32{1}), of([]uint32{1}, 2), of(append(make([]uint32, 63), 1<<31))}
	two := map[string]func(a, b api.Ratio) (bool, api.Errno){
		"Cmp": func(a, b api.Ratio) (bool, api.Errno) {
			n, e := ratio.Cmp(a, b)
			return n == 0, e
		},
	}
	for name, f := range map[string]func(a, b api.Ratio) (api.Ratio, api.Errno){"Add": ratio.Add, "Sub": ratio.Sub, "Mul": ratio.Mul, "Div": ratio.Div, "Simplest": ratio.Simplest} {
		two[name] = func(a, b api.Ratio) (bool, api.Errno) {
			r, e := f(a, b)
			return equal(r, api.Ratio{}), e
		}
	}
	for name, f := range two {
		for i, x := range bad {
			for _, g := range good {
				for _, y := range bad {
					if zero, e := f(x.r, y.r); e != x.e || !zero {
						t.Errorf("%s of two invalid ratios, the first one %d: error %d, want %d", name, i, e, x.e)
					}
				}
				if zero, e := f(x.r, g); e != x.e || !zero {
					t.Errorf("%s of the invalid ratio %d and %s: error %d, want %d", name, i, short(g), e, x.e)
				}
				if zero, e := f(g, x.r); e != x.e || !zero {
					t.Errorf("%s of %s and the invalid ratio %d: error %d, want %d", name, short(g), i, e, x.e)
				}
			}
		}
	}
	for i, x := range bad {
		for _, n := range []int{math.MinInt, -1, 0, 1, 3, maxPower, maxPower + 1, math.MaxInt} {
			r, e := ratio.Power(x.r, n)
			checkRatio(t, "P5.6: Power of an invalid ratio", r, e, api.Ratio{}, x.e)
		}
		if n, e := ratio.Floor(x.r); n != 0 || e != x.e {
			t.Errorf("P5.7: Floor of the invalid ratio %d: %d, error %d, want %d", i, n, e, x.e)
		}
		if s, e := ratio.Print(x.r); s != "" || e != x.e {
			t.Errorf("P5.9: Print of the invalid ratio %d: %.20q, error %d, want %d", i, s, e, x.e)
		}
	}
}

// folded returns what the first sentence of P5.5 says.
func folded(l []api.Ratio) (api.Ratio, api.Errno) {
	sum := api.Ratio{}
	for _, r := range l {
		next, e := ratio.Add(sum, r)
		if e != api.OK {
			return api.Ratio{}, e
		}
		sum = next
	}
	return sum, api.OK
}

func TestSum(t *testing.T) {
	parts := []api.Ratio{read(t, "1/2"), read(t, "1/3"), read(t, "1/6"), read(t, "5/7")}
	half := quotient(t, power(2, 2047, 0), big.NewInt(1))
	small := quotient(t, big.NewInt(1), power(2, 2047, 0))
	bad, long := of([]uint32{2}, 4), of(make([]uint32, 65))
	for i, x := range []struct {
		l    []api.Ratio
		want string
		e    api.Errno
	}{
		{nil, "0", api.OK},
		{[]api.Ratio{}, "0", api.OK},
		{[]api.Ratio{{}}, "0", api.OK},
		{[]api.Ratio{{}, {}, {}}, "0", api.OK},
		{parts[:1], "1/2", api.OK},
		{parts[:3], "1", api.OK},
		{parts, "12/7", api.OK},
		{slices.Repeat(parts, 700), "1200", api.OK},
		{[]api.Ratio{half, half}, "0", api.ErrLimit},
		{[]api.Ratio{half, parts[0]}, "0", api.ErrLimit},
		// The sum of all of these fits, and so do those in another order.
		{[]api.Ratio{small, read(t, "1/3"), read(t, "2/3")}, "0", api.ErrLimit},
		{[]api.Ratio{bad}, "0", api.ErrArg},
		{[]api.Ratio{long}, "0", api.ErrLimit},
		{[]api.Ratio{parts[0], bad, long}, "0", api.ErrArg},
		{[]api.Ratio{parts[0], long, bad}, "0", api.ErrLimit},
		{[]api.Ratio{half, half, bad}, "0", api.ErrLimit},
		{[]api.Ratio{half, bad, half}, "0", api.ErrArg},
		{append(slices.Clone(parts), bad), "0", api.ErrArg},
	} {
		r, e := ratio.Sum(x.l)
		checkRatio(t, "P5.5: Sum "+strconv.Itoa(i), r, e, read(t, x.want), x.e)
		want, wantError := folded(x.l)
		checkRatio(t, "P5.5: Sum, by Add, "+strconv.Itoa(i), r, e, want, wantError)
	}
	if _, e := ratio.Sum([]api.Ratio{read(t, "1/3"), read(t, "2/3"), small}); e != api.OK {
		t.Errorf("P5.5: Sum in another order: error %d", e)
	}
	g := rand.New(rand.NewPCG(5, 5))
	for range 300 {
		var l []api.Ratio
		most := 1 + g.IntN(200)
		for range g.IntN(20) {
			l = append(l, chance(g, most))
		}
		r, e := ratio.Sum(l)
		want, wantError := folded(l)
		checkRatio(t, "P5.5: Sum, by Add", r, e, want, wantError)
	}
}

func TestPower(t *testing.T) {
	for _, x := range []struct {
		r    string
		n    int
		want string
		e    api.Errno
	}{
		{"0", 0, "1", api.OK}, {"1/2", 0, "1", api.OK}, {"0", 1, "0", api.OK}, {"0", maxPower, "0", api.OK}, {"1", maxPower, "1", api.OK}, {"2/3", 1, "2/3", api.OK}, {"2/3", 5, "32/243", api.OK}, {"7", 3, "343", api.OK}, {"1/2", 32, "1/4294967296", api.OK}, {"10", 19, "10000000000000000000", api.OK},
		{"2", 2048, "0", api.ErrLimit}, {"1/2", 2048, "0", api.ErrLimit}, {"3", maxPower, "0", api.ErrLimit}, {"2/3", maxPower, "0", api.ErrLimit}, {"1/3", 1293, "0", api.ErrLimit}, {"4", 1024, "0", api.ErrLimit},
		{"1", -1, "0", api.ErrRange}, {"0", maxPower + 1, "0", api.ErrRange}, {"1", math.MinInt, "0", api.ErrRange}, {"1", math.MaxInt, "0", api.ErrRange}, {"2", maxPower + 1, "0", api.ErrRange}, {"2", 1 << 32, "0", api.ErrRange},
	} {
		r, e := ratio.Power(read(t, x.r), x.n)
		checkRatio(t, "P5.6: Power of "+x.r+" and "+strconv.Itoa(x.n), r, e, read(t, x.want), x.e)
	}
	for i, x := range []struct{ num, den, n int64 }{{2, 1, 2047}, {1, 2, 2047}, {3, 1, 1292}, {3, 2, 1292}, {2, 3, 1292}, {10, 1, 616}, {9, 10, 616}, {4, 1, 1023}} {
		r, e := ratio.Power(quotient(t, big.NewInt(x.num), big.NewInt(x.den)), int(x.n))
		checkRatio(t, "P5.6: the greatest power "+strconv.Itoa(i), r, e, quotient(t, power(x.num, x.n, 0), power(x.den, x.n, 0)), api.OK)
		if _, e := ratio.Power(quotient(t, big.NewInt(x.num), big.NewInt(x.den)), int(x.n)+1); e != api.ErrLimit {
			t.Errorf("P5.6: a power that is too great, %d: error %d", i, e)
		}
	}
}

func TestPowerIsAProduct(t *testing.T) {
	for _, r := range known(t) {
		want, wantError := of([]uint32{1}), api.OK
		for n := range 70 {
			got, e := ratio.Power(r, n)
			checkRatio(t, "P5.6: Power of "+short(r)+" and "+strconv.Itoa(n), got, e, want, wantError)
			if wantError == api.OK {
				want, wantError = refRatio(new(big.Rat).Mul(refFraction(want), refFraction(r)))
			}
		}
	}
}

func checkFloor(t *testing.T, r api.Ratio) {
	t.Helper()
	x := refFraction(r)
	whole := new(big.Int).Div(x.Num(), x.Denom())
	want, wantError := 0, api.ErrLimit
	if whole.IsInt64() {
		want, wantError = int(whole.Int64()), api.OK
	}
	if n, e := ratio.Floor(r); n != want || e != wantError {
		t.Errorf("P5.7: Floor of %s: %d, error %d; want %d, error %d", short(r), n, e, want, wantError)
	}
}

func TestFloor(t *testing.T) {
	for _, r := range known(t) {
		checkFloor(t, r)
	}
	for _, s := range []string{"0", "1/3", "2/3", "7/2", "9/2", "9223372036854775807", "9223372036854775808", "18446744073709551615/2", "18446744073709551617/2", "27670116110564327423/3", "27670116110564327425/3", "36893488147419103233", "79228162514264337593543950337"} {
		checkFloor(t, read(t, s))
	}
	g := rand.New(rand.NewPCG(5, 6))
	for range 5000 {
		den := noisy(g, 1+g.IntN(1900))
		num := new(big.Int).Mul(den, noisy(g, 1+g.IntN(64)))
		num.Add(num, big.NewInt(int64(g.IntN(3)-1)))
		checkFloor(t, quotient(t, num, den))
	}
}

// TestFloorOfHardDivisions takes divisors whose first limbs let the quotient look greater than it is.
func TestFloorOfHardDivisions(t *testing.T) {
	for limbs := 3; limbs < 64; limbs++ {
		for _, first := range []*big.Int{power(2, 63, 0), power(2, 63, 1), power(2, 64, -1), power(2, 33, 0), power(2, 32, 1), power(2, 50, -1)} {
			shift := uint(32 * (limbs - 2))
			base := new(big.Int).Lsh(first, shift)
			tail := new(big.Int).Lsh(big.NewInt(1), shift)
			den := new(big.Int).Add(base, tail.Sub(tail, big.NewInt(1)))
			for _, n := range []*big.Int{big.NewInt(1), big.NewInt(2), big.NewInt(5), power(2, 31, 0), power(2, 32, -2), power(2, 32, -1), power(2, 32, 0)} {
				for more := -1; more <= 1; more++ {
					num := new(big.Int).Mul(base, n)
					num.Add(num, big.NewInt(int64(more)))
					if num.BitLen() <= 32*maxLimbs {
						checkFloor(t, quotient(t, num, den))
					}
				}
			}
		}
	}
}

func TestSimplest(t *testing.T) {
	for _, x := range []struct {
		a, b, want string
		e          api.Errno
	}{
		{"1/3", "3/7", "1/3", api.OK}, {"5/2", "7/2", "3", api.OK}, {"5/2", "9/2", "3", api.OK}, {"0", "0", "0", api.OK}, {"0", "9", "0", api.OK}, {"1/2", "9", "1", api.OK}, {"1/2", "1", "1", api.OK}, {"2", "9", "2", api.OK}, {"7/5", "10/7", "7/5", api.OK}, {"27/20", "29/20", "7/5", api.OK}, {"3141/1000", "3143/1000", "22/7", api.OK}, {"3141/1000", "3142/1000", "245/78", api.OK}, {"1/10", "1/9", "1/9", api.OK}, {"1/1000", "1/3", "1/3", api.OK}, {"2/5", "3/5", "1/2", api.OK},
		{"2", "1", "0", api.ErrRange}, {"3/7", "1/3", "0", api.ErrRange}, {"1", "0", "0", api.ErrRange},
	} {
		var ends [2]api.Ratio
		for i, s := range []string{x.a, x.b} {
			y, _ := new(big.Rat).SetString(s)
			ends[i], _ = refRatio(y)
		}
		r, e := ratio.Simplest(ends[0], ends[1])
		checkRatio(t, "P5.8: Simplest of "+x.a+" and "+x.b, r, e, read(t, x.want), x.e)
	}
}

// TestSimplestOfAllSmall compares with a search among all denominators.
func TestSimplestOfAllSmall(t *testing.T) {
	var l []*big.Rat
	for d := int64(1); d <= 14; d++ {
		for n := int64(0); n <= 30; n++ {
			l = append(l, big.NewRat(n, d))
		}
	}
	slices.SortFunc(l, (*big.Rat).Cmp)
	l = slices.CompactFunc(l, func(a, b *big.Rat) bool { return a.Cmp(b) == 0 })
	for i, a := range l {
		for j, b := range l {
			x, _ := refRatio(a)
			y, _ := refRatio(b)
			got, e := ratio.Simplest(x, y)
			want, wantError := api.Ratio{}, api.ErrRange
			if i <= j {
				want, wantError = refRatio(refFirst(a, b))
			}
			checkRatio(t, "P5.8: Simplest of "+short(x)+" and "+short(y), got, e, want, wantError)
		}
	}
}

func checkSimplest(t *testing.T, a, b api.Ratio) {
	t.Helper()
	x, y := refFraction(a), refFraction(b)
	r, e := ratio.Simplest(a, b)
	if x.Cmp(y) > 0 {
		checkRatio(t, "P5.8: Simplest of "+short(a)+" and "+short(b), r, e, api.Ratio{}, api.ErrRange)
		return
	}
	if e != api.OK || refValid(r) != api.OK || !refIsSimplest(x, y, refFraction(r)) {
		t.Errorf("P5.13: Simplest of %s and %s: %s, error %d", short(a), short(b), short(r), e)
	}
}

func TestSimplestOfMany(t *testing.T) {
	l := known(t)
	for _, a := range l {
		for _, b := range l {
			checkSimplest(t, a, b)
		}
		r, e := ratio.Simplest(a, clone(a))
		checkRatio(t, "P5.13: Simplest of "+short(a)+" and itself", r, e, a, api.OK)
	}
	g := rand.New(rand.NewPCG(5, 7))
	for range 2000 {
		a, width := refFraction(chance(g, 1+g.IntN(500))), refFraction(chance(g, 1+g.IntN(300)))
		if g.IntN(2) == 0 {
			width.Quo(width, new(big.Rat).SetInt(power(2, int64(g.IntN(500)), 0)))
		}
		low, e := refRatio(a)
		high, f := refRatio(width.Add(width, a))
		if e != api.OK || f != api.OK {
			continue
		}
		checkSimplest(t, low, high)
		checkSimplest(t, high, low)
	}
}

// TestSimplestOfLongFractions takes numbers whose continued fractions are as long as they can be.
func TestSimplestOfLongFractions(t *testing.T) {
	for n := 2900; n < 2948; n++ {
		low, high := fibonacci(n)
		next := new(big.Int).Add(low, high)
		a, b := quotient(t, high, low), quotient(t, next, high)
		checkSimplest(t, a, b)
		checkSimplest(t, b, a)
		checkSimplest(t, a, a)
	}
}

func TestPrint(t *testing.T) {
	for _, r := range known(t) {
		if s, e := ratio.Print(r); s != refPrint(r) || e != api.OK {
			t.Errorf("P5.9: Print of %s: %.70q, error %d", short(r), s, e)
		}
	}
	for k := range int64(617) {
		for more := int64(-1); more <= 1; more++ {
			x := power(10, k, more)
			if s, e := ratio.Print(of(refLimbs(x))); s != x.String() || e != api.OK {
				t.Errorf("P5.9: Print of a number of %d digits: %.70q, error %d", len(x.String()), s, e)
			}
		}
	}
	if s, e := ratio.Print(of([]uint32{1}, 0, 1)); s != "1/4294967296" || e != api.OK {
		t.Errorf("P5.9: %q, error %d", s, e)
	}
}

func checkParse(t *testing.T, s string, e api.Errno) {
	t.Helper()
	want, wantError := refParse(s)
	if wantError != e {
		t.Fatalf("the reference says %d of %.40q, not %d", wantError, s, e)
	}
	r, got := ratio.Parse(s)
	if !equal(r, want) || got != e {
		t.Errorf("P5.9: Parse of %.40q: %s, error %d; want %s, error %d", s, short(r), got, short(want), e)
	}
}

func TestParse(t *testing.T) {
	top, over := power(2, 2048, -1).String(), power(2, 2048, 0).String()
	digits, more := strings.Repeat("9", 616), strings.Repeat("9", 618)
	long := "1" + strings.Repeat("0", 100000)
	for e, l := range map[api.Errno][]string{
		api.OK:       {"0", "1", "9", "10", "2", "1/2", "10/3", "4294967295", "4294967296", "4294967297/4294967296", "100000000000000000000", top, "1/" + top, digits, digits + "/" + power(10, 616, 0).String()},
		api.ErrForm:  {"", "/", "//", "1/", "/2", "a", "1a", "a1", " 1", "1 ", "1\n", "-1", "+1", "1.0", "1/-2", "1/2/3", "1//2", "1/2/", "00", "02", "1/02", "01/2", "1/00", "0x1", "1_000", "1e3", "٣", "1/٣", "１", "½", "\x00", "1\x00", "1/2\n", "\xff", ":", "1:2", "1\\2", "0" + top, long + "/", long + "/x", "0" + long, long + "/00", "x/" + long, "/" + long},
		api.ErrLimit: {over, "1/" + over, over + "/" + over, more, "1/" + more, more + "/" + more, long, "0/" + over, over + "/0", over + "/1", "2/" + more, more + "/2", "0/" + long, long + "/0"},
		api.ErrArg:   {"0/1", "0/7", "0/0", "1/0", "7/0", "3/1", "1/1", "2/4", "4/2", "10/5", "7/7", "4294967296/4294967296", top + "/" + top, top + "/3", "3/" + top, top + "/1", top + "/0", "0/" + top},
	} {
		for _, s := range l {
			checkParse(t, s, e)
		}
	}
}

// TestParseOfAllShort compares Parse for all short strings of some bytes.
func TestParseOfAllShort(t *testing.T) {
	level := []string{""}
	for range 5 {
		var next []string
		for _, s := range level {
			_, e := refParse(s)
			checkParse(t, s, e)
			for _, c := range "0129/ " {
				next = append(next, s+string(c))
			}
		}
		level = next
	}
	g := rand.New(rand.NewPCG(5, 8))
	for range 2000 {
		s := noisy(g, 1+g.IntN(2060)).String()
		if g.IntN(2) == 0 {
			s += "/" + noisy(g, 1+g.IntN(2060)).String()
		}
		_, e := refParse(s)
		checkParse(t, s, e)
	}
}

func ints(l ...int) []byte { return wire.Ints(l) }

func TestEncode(t *testing.T) {
	l := known(t)
	for _, x := range invalids() {
		l = append(l, x.r)
	}
	for _, r := range l {
		var num, den []int
		for _, x := range r.Num {
			num = append(num, int(x))
		}
		for _, x := range r.Den {
			den = append(den, int(x))
		}
		before := clone(r)
		if b := ratio.Encode(r); !slices.Equal(b, slices.Concat(ints(num...), ints(den...))) {
			t.Errorf("P5.10: Encode of %.20v and %.20v", r.Num, r.Den)
		}
		if !equal(r, before) {
			t.Error("P5.10: Encode changed its argument")
		}
	}
	if b := ratio.Encode(of([]uint32{maxLimb, 1}, 2)); !slices.Equal(b, []byte{129, 2, 132, 255, 255, 255, 255, 129, 1, 129, 1, 129, 2}) {
		t.Error("P5.10:", b)
	}
}

func TestDecode(t *testing.T) {
	long := make([]int, 65)
	long[64] = 1
	for i, x := range []struct {
		b []byte
		e api.Errno
	}{
		{nil, api.ErrMore},
		{ints(), api.ErrMore},
		{ints(3), api.ErrMore},
		{[]byte{129}, api.ErrMore},
		{[]byte{129, 1}, api.ErrMore},
		{[]byte{137}, api.ErrForm},
		{[]byte{127}, api.ErrForm},
		{slices.Concat(ints(), ints()), api.OK},
		{slices.Concat(ints(5), ints()), api.OK},
		{slices.Concat(ints(3), ints(2)), api.OK},
		{slices.Concat(ints(1<<32-1), ints(0, 1)), api.OK},
		{slices.Concat(ints(-1), ints()), api.ErrForm},
		{slices.Concat(ints(1<<32), ints()), api.ErrForm},
		{slices.Concat(ints(1<<32+1), ints()), api.ErrForm},
		{slices.Concat(ints(1), ints(-2)), api.ErrForm},
		{slices.Concat(ints(1), ints(1<<32+3)), api.ErrForm},
		{slices.Concat(ints(math.MaxInt), ints()), api.ErrForm},
		{slices.Concat(ints(math.MinInt), ints()), api.ErrForm},
		{slices.Concat(ints(2), ints(4)), api.ErrForm},
		{slices.Concat(ints(0), ints()), api.ErrForm},
		{slices.Concat(ints(2), ints(1)), api.ErrForm},
		{slices.Concat(ints(2), ints(0)), api.ErrForm},
		{slices.Concat(ints(), ints(2)), api.ErrForm},
		{slices.Concat(ints(2, 0), ints(3)), api.ErrForm},
		{slices.Concat(ints(long...), ints()), api.ErrForm},
		{slices.Concat(ints(1), ints(long...)), api.ErrForm},
		// The errors of both lists come before that of a number.
		{ints(-1), api.ErrMore},
		{ints(1 << 32), api.ErrMore},
		{ints(long...), api.ErrMore},
		{append(ints(-1), 129), api.ErrMore},
		{append(ints(-1), 129, 1), api.ErrMore},
		{append(ints(5), 137), api.ErrForm},
		{append(ints(5), 127), api.ErrForm},
		{append(ints(5), 129, 1, 129, 0), api.ErrForm},
	} {
		for _, after := range [][]byte{nil, {128}, {0}, {137, 1}} {
			b := append(slices.Clone(x.b), after...)
			want, used, e := refDecode(b)
			if len(after) == 0 && e != x.e {
				t.Fatalf("case %d: the reference says %d", i, e)
			}
			r, n, got := ratio.Decode(b)
			checkRatio(t, "P5.10: Decode, case "+strconv.Itoa(i), r, got, want, e)
			if n != used {
				t.Errorf("P5.10: Decode, case %d: used %d, want %d", i, n, used)
			}
		}
	}
}

// TestDecodeOfBentEncodings changes single bytes, and cuts.
func TestDecodeOfBentEncodings(t *testing.T) {
	for _, r := range []api.Ratio{{}, of([]uint32{3}, 2), of([]uint32{maxLimb, 7}, 256, 1), of([]uint32{1, 2, 3})} {
		b := ratio.Encode(r)
		for i := range b {
			if got, n, e := ratio.Decode(b[:i]); e != api.ErrMore || n != 0 || !equal(got, api.Ratio{}) {
				t.Errorf("P5.10: Decode of the first %d bytes of %v: error %d", i, b, e)
			}
			for c := range 256 {
				bent := slices.Clone(b)
				bent[i] = byte(c)
				want, used, e := refDecode(bent)
				got, n, f := ratio.Decode(bent)
				if !equal(got, want) || n != used || f != e {
					t.Errorf("P5.10: Decode of %v: %s, %d, error %d; want %s, %d, error %d", bent, short(got), n, f, short(want), used, e)
				}
			}
		}
	}
}

func TestSame(t *testing.T) {
	l := known(t)
	for _, x := range invalids() {
		l = append(l, x.r)
	}
	for i, a := range l {
		for j, b := range l {
			if got, want := ratio.Same(a, clone(b)), equal(a, b); got != want {
				t.Errorf("P5.10: Same of %d and %d: %t", i, j, got)
			}
		}
	}
	for i, x := range []struct {
		a, b api.Ratio
		want bool
	}{
		{api.Ratio{}, of([]uint32{}, []uint32{}...), true}, {of([]uint32{2}, 4), of([]uint32{2}, 4), true}, {of([]uint32{2}, 4), of([]uint32{1}, 2), false}, {of([]uint32{1}), of([]uint32{1, 0}), false}, {of([]uint32{1}), of([]uint32{1}, 1), false}, {of([]uint32{1}, 2), of([]uint32{2}, 1), false}, {of([]uint32{1, 2}), of([]uint32{2, 1}), false}, {of(nil, 1), of([]uint32{1}), false}, {of([]uint32{0}), api.Ratio{}, false},
	} {
		if ratio.Same(x.a, x.b) != x.want || ratio.Same(x.b, x.a) != x.want {
			t.Errorf("P5.10: Same, case %d", i)
		}
	}
}

// must returns a result that has no error.
func must(t *testing.T) func(r api.Ratio, e api.Errno) api.Ratio {
	return func(r api.Ratio, e api.Errno) api.Ratio {
		t.Helper()
		if e != api.OK {
			t.Fatalf("error %d", e)
		}
		return r
	}
}

// TestField uses numbers for which nothing is too large.
func TestField(t *testing.T) {
	is, g := must(t), rand.New(rand.NewPCG(5, 9))
	same := func(law string, a, b api.Ratio) {
		t.Helper()
		if !ratio.Same(a, b) {
			t.Errorf("P5.11: %s: %s, %s", law, short(a), short(b))
		}
	}
	for i := range 1500 {
		most := 1 + g.IntN(500)
		a, b, c := chance(g, most), chance(g, most), chance(g, most)
		if i%10 == 0 {
			b = api.Ratio{}
		}
		sum, product := is(ratio.Add(a, b)), is(ratio.Mul(a, b))
		same("a + b", sum, is(ratio.Add(b, a)))
		same("a * b", product, is(ratio.Mul(b, a)))
		same("a + b + c", is(ratio.Add(sum, c)), is(ratio.Add(a, is(ratio.Add(b, c)))))
		same("a * b * c", is(ratio.Mul(product, c)), is(ratio.Mul(a, is(ratio.Mul(b, c)))))
		same("c * (a + b)", is(ratio.Mul(c, sum)), is(ratio.Add(is(ratio.Mul(c, a)), is(ratio.Mul(c, b)))))
		same("a + b - b", is(ratio.Sub(sum, b)), a)
		same("a + b - a", is(ratio.Sub(sum, a)), b)
		same("a * b / a", is(ratio.Div(product, a)), b)
		same("sums", is(ratio.Sum([]api.Ratio{a, b, c})), is(ratio.Sum([]api.Ratio{c, a, b})))
	}
}

func TestOrder(t *testing.T) {
	pairs(t, func(a, b api.Ratio) {
		n, _ := ratio.Cmp(a, b)
		if (n == 0) != ratio.Same(a, b) {
			t.Errorf("P5.12: Cmp of %s and %s is %d", short(a), short(b), n)
		}
		if _, e := ratio.Sub(a, b); (e != api.ErrRange) != (n >= 0) {
			t.Errorf("P5.12: Sub of %s and %s has the error %d, and Cmp is %d", short(a), short(b), e, n)
		}
	})
	is, g := must(t), rand.New(rand.NewPCG(5, 10))
	for range 1500 {
		most := 1 + g.IntN(900)
		a, b, c := chance(g, most), chance(g, most), chance(g, most)
		n, _ := ratio.Cmp(a, b)
		if m, _ := ratio.Cmp(is(ratio.Add(a, c)), is(ratio.Add(b, c))); m != n {
			t.Errorf("P5.12: sums of %s and %s with %s", short(a), short(b), short(c))
		}
		if m, _ := ratio.Cmp(is(ratio.Mul(a, c)), is(ratio.Mul(b, c))); m != n {
			t.Errorf("P5.12: products of %s and %s with %s", short(a), short(b), short(c))
		}
	}
}

func TestForms(t *testing.T) {
	check := func(r api.Ratio) {
		t.Helper()
		s, _ := ratio.Print(r)
		again, e := ratio.Parse(s)
		checkRatio(t, "P5.14: Parse of Print of "+short(r), again, e, r, api.OK)
		b := ratio.Encode(r)
		for _, after := range [][]byte{nil, {0}, {128, 128}, b, []byte("1/2")} {
			again, n, e := ratio.Decode(slices.Concat(b, after))
			checkRatio(t, "P5.14: Decode of Encode of "+short(r), again, e, r, api.OK)
			if n != len(b) {
				t.Errorf("P5.14: Decode of Encode of %s: used %d of %d", short(r), n, len(b))
			}
		}
	}
	for _, r := range known(t) {
		check(r)
	}
	g := rand.New(rand.NewPCG(5, 11))
	for range 2000 {
		check(chance(g, 1+g.IntN(2048)))
	}
}

// makers are calls that make a ratio of two others.
func makers() map[string]func(a, b api.Ratio) (api.Ratio, api.Errno) {
	return map[string]func(a, b api.Ratio) (api.Ratio, api.Errno){
		"Add": ratio.Add, "Sub": ratio.Sub, "Mul": ratio.Mul, "Div": ratio.Div, "Simplest": ratio.Simplest,
		"Sum of one":  func(a, _ api.Ratio) (api.Ratio, api.Errno) { return ratio.Sum([]api.Ratio{a}) },
		"Sum":         func(a, b api.Ratio) (api.Ratio, api.Errno) { return ratio.Sum([]api.Ratio{a, b}) },
		"first power": func(a, _ api.Ratio) (api.Ratio, api.Errno) { return ratio.Power(a, 1) },
		"Power":       func(a, _ api.Ratio) (api.Ratio, api.Errno) { return ratio.Power(a, 2) },
		"no power":    func(a, _ api.Ratio) (api.Ratio, api.Errno) { return ratio.Power(a, 0) },
		"Of":          func(_, _ api.Ratio) (api.Ratio, api.Errno) { return ratio.Of(3, 2) },
		"Parse":       func(_, _ api.Ratio) (api.Ratio, api.Errno) { return ratio.Parse("3/2") },
		"Decode": func(a, _ api.Ratio) (api.Ratio, api.Errno) {
			r, _, e := ratio.Decode(ratio.Encode(a))
			return r, e
		},
	}
}

// spoil overwrites all memory that somebody who has a list can reach.
func spoil(l []uint32) {
	l = l[:cap(l)]
	for i := range l {
		l[i] = 0xdeadbeef
	}
}

// TestResultsAreNewMemory spoils results, and arguments, and looks at what else changed.
func TestResultsAreNewMemory(t *testing.T) {
	l := known(t)
	small := []string{"0", "1", "2", "1/2", "3/2", "4294967296", "1/4294967296"}
	for name, f := range makers() {
		for _, a := range l {
			for _, s := range small {
				b := read(t, s)
				for _, x := range [][2]api.Ratio{{a, b}, {b, a}, {a, a}} {
					checkMemory(t, name, clone(x[0]), clone(x[1]), f)
				}
			}
		}
	}
}

func checkMemory(t *testing.T, name string, a, b api.Ratio, f func(a, b api.Ratio) (api.Ratio, api.Errno)) {
	t.Helper()
	r, e := f(a, b)
	want, again := clone(r), clone(a)
	if other, _ := f(a, b); e == api.OK {
		spoil(r.Num)
		if !slices.Equal(r.Den, want.Den) {
			t.Errorf("Rules: %s of %s and %s: Num and Den share memory", name, short(a), short(b))
		}
		spoil(r.Den)
		if !equal(a, again) || !equal(other, want) {
			t.Errorf("Rules: %s of %s and %s shares memory", name, short(a), short(b))
		}
		spoil(a.Num)
		spoil(a.Den)
		spoil(b.Num)
		spoil(b.Den)
		if !equal(other, want) {
			t.Errorf("Rules: %s shares memory with its arguments", name)
		}
	}
}

// TestGreatArguments gives what is much too large, which must be refused before it costs anything.
func TestGreatArguments(t *testing.T) {
	text := strings.Repeat("7", 1<<22)
	list := slices.Repeat([]uint32{7}, 1<<22)
	var before, after runtime.MemStats
	runtime.ReadMemStats(&before)
	for _, s := range []string{text, "1/" + text, text + "/2", text + "/" + text} {
		if _, e := ratio.Parse(s); e != api.ErrLimit {
			t.Errorf("P5.9: error %d", e)
		}
	}
	if _, e := ratio.Mul(of(list, list...), of(list)); e != api.ErrLimit {
		t.Errorf("P5.1: error %d", e)
	}
	if _, e := ratio.Power(of([]uint32{3}, 2), maxPower); e != api.ErrLimit {
		t.Errorf("P5.6: error %d", e)
	}
	runtime.ReadMemStats(&after)
	if got := after.TotalAlloc - before.TotalAlloc; got > 1<<25 {
		t.Errorf("P5.9: %d bytes allocated", got)
	}
}
