package ratio_test

import (
	"math/big"
	"math/rand/v2"
	"regexp"
	"slices"
	"strings"

	"culprit/api"
	"culprit/wire"
)

// The functions whose names begin with ref follow the text of the chapter with Go's own numbers of any size.

const (
	maxLimbs = 64
	maxPower = 65536
	maxLimb  = 1<<32 - 1
)

func refNumber(l []uint32) *big.Int {
	x := new(big.Int)
	for _, limb := range slices.Backward(l) {
		x.Add(x.Lsh(x, 32), big.NewInt(int64(limb)))
	}
	return x
}

func refLimbs(x *big.Int) []uint32 {
	var l []uint32
	mask := big.NewInt(maxLimb)
	for rest := new(big.Int).Set(x); rest.Sign() > 0; rest.Rsh(rest, 32) {
		l = append(l, uint32(new(big.Int).And(rest, mask).Int64()))
	}
	return l
}

// refFraction returns the number of a ratio whose denominator is not 0.
func refFraction(r api.Ratio) *big.Rat {
	x := new(big.Rat).SetInt(refNumber(r.Num))
	if len(r.Den) > 0 {
		x.SetFrac(refNumber(r.Num), refNumber(r.Den))
	}
	return x
}

func refFits(x *big.Rat) bool {
	return x.Num().BitLen() <= 32*maxLimbs && x.Denom().BitLen() <= 32*maxLimbs
}

// refRatio returns the valid ratio of a number, or its error.
func refRatio(x *big.Rat) (api.Ratio, api.Errno) {
	if x.Sign() < 0 {
		return api.Ratio{}, api.ErrRange
	}
	if !refFits(x) {
		return api.Ratio{}, api.ErrLimit
	}
	r := api.Ratio{Num: refLimbs(x.Num())}
	if !x.IsInt() {
		r.Den = refLimbs(x.Denom())
	}
	return r, api.OK
}

func refValid(r api.Ratio) api.Errno {
	if len(r.Num) > maxLimbs || len(r.Den) > maxLimbs {
		return api.ErrLimit
	}
	for _, l := range [][]uint32{r.Num, r.Den} {
		if !slices.Equal(l, refLimbs(refNumber(l))) {
			return api.ErrArg
		}
	}
	num, den := refNumber(r.Num), refNumber(r.Den)
	one := big.NewInt(1)
	if den.Cmp(one) == 0 || len(r.Num) == 0 && len(r.Den) > 0 {
		return api.ErrArg
	}
	if len(r.Den) > 0 && new(big.Int).GCD(nil, nil, num, den).Cmp(one) != 0 {
		return api.ErrArg
	}
	return api.OK
}

// refPrint returns the printed form of a ratio with any Den, also one that is not valid.
func refPrint(r api.Ratio) string {
	if len(r.Den) == 0 {
		return refNumber(r.Num).String()
	}
	return refNumber(r.Num).String() + "/" + refNumber(r.Den).String()
}

var forms = regexp.MustCompile(`^(0|[1-9][0-9]*)(/(0|[1-9][0-9]*))?$`)

func refParse(s string) (api.Ratio, api.Errno) {
	if !forms.MatchString(s) || strings.HasSuffix(s, "\n") {
		return api.Ratio{}, api.ErrForm
	}
	rows := []*big.Int{}
	for _, row := range strings.Split(s, "/") {
		x, _ := new(big.Int).SetString(row, 10)
		if x.BitLen() > 32*maxLimbs {
			return api.Ratio{}, api.ErrLimit
		}
		rows = append(rows, x)
	}
	if len(rows) == 1 {
		return api.Ratio{Num: refLimbs(rows[0])}, api.OK
	}
	if rows[1].Sign() == 0 {
		return api.Ratio{}, api.ErrArg
	}
	r, _ := refRatio(new(big.Rat).SetFrac(rows[0], rows[1]))
	if refPrint(r) != s {
		return api.Ratio{}, api.ErrArg
	}
	return r, api.OK
}

func refDecode(b []byte) (api.Ratio, int, api.Errno) {
	num, first, e := wire.GetInts(b)
	if e != api.OK {
		return api.Ratio{}, 0, e
	}
	den, second, e := wire.GetInts(b[first:])
	if e != api.OK {
		return api.Ratio{}, 0, e
	}
	var lists [2][]uint32
	for i, l := range [][]int{num, den} {
		for _, n := range l {
			if n != int(uint32(n)) {
				return api.Ratio{}, 0, api.ErrForm
			}
			lists[i] = append(lists[i], uint32(n))
		}
	}
	r := api.Ratio{Num: lists[0], Den: lists[1]}
	if refValid(r) != api.OK {
		return api.Ratio{}, 0, api.ErrForm
	}
	return r, first + second, api.OK
}

// refCeil returns the least integer that is not less than x.
func refCeil(x *big.Rat) *big.Int {
	up := new(big.Int).Add(x.Num(), x.Denom())
	return up.Div(up.Sub(up, big.NewInt(1)), x.Denom())
}

// refFirst returns the simplest number from a to b, by trying one denominator after the other.
func refFirst(a, b *big.Rat) *big.Rat {
	for d := int64(1); ; d++ {
		den := big.NewInt(d)
		least := refCeil(new(big.Rat).Mul(a, new(big.Rat).SetInt(den)))
		if x := new(big.Rat).SetFrac(least, den); x.Cmp(b) <= 0 {
			return x
		}
	}
}

// refIsSimplest says whether x is the simplest number from a to b, without a search: of all numbers with lesser denominators the next ones below and above x are its parents in the tree of Stern and Brocot, whose denominators follow from an inverse.
func refIsSimplest(a, b, x *big.Rat) bool {
	if x.Cmp(a) < 0 || x.Cmp(b) > 0 {
		return false
	}
	if x.IsInt() {
		return x.Num().Cmp(refCeil(a)) == 0
	}
	p, q := x.Num(), x.Denom()
	// The lower parent n/d has p * d - n * q = 1.
	d := new(big.Int).ModInverse(p, q)
	n := new(big.Int).Mul(p, d)
	n.Div(n.Sub(n, big.NewInt(1)), q)
	if new(big.Rat).SetFrac(n, d).Cmp(a) >= 0 {
		return false
	}
	above, below := new(big.Int).Sub(p, n), new(big.Int).Sub(q, d)
	return below.Sign() == 0 || new(big.Rat).SetFrac(above, below).Cmp(b) > 0
}

// noisy returns a number of so many bits, with rows of noughts and of ones in it.
func noisy(r *rand.Rand, bits int) *big.Int {
	x := big.NewInt(1)
	for x.BitLen() < bits {
		n := min(1+r.IntN(70), bits-x.BitLen())
		x.Lsh(x, uint(n))
		row := new(big.Int).Lsh(big.NewInt(1), uint(n))
		switch row.Sub(row, big.NewInt(1)); r.IntN(4) {
		case 0:
			x.Or(x, row)
		case 1:
			x.Or(x, big.NewInt(1))
		case 2:
			x.Or(x, new(big.Int).And(row, new(big.Int).SetUint64(r.Uint64())))
		}
	}
	return x
}

// chance returns a valid ratio whose numerator and denominator have at most so many bits.
func chance(r *rand.Rand, most int) api.Ratio {
	num, den := noisy(r, 1+r.IntN(most)), noisy(r, 1+r.IntN(most))
	if r.IntN(5) == 0 {
		den = big.NewInt(1)
	}
	x, _ := refRatio(new(big.Rat).SetFrac(num, den))
	return x
}
