package ratio

import (
	"math/bits"
	"slices"
)

// The functions of this file calculate with lists of limbs. All lists that
// they take and return are proper, where nothing else is said.

const (
	limbBits = 32
	limbMask = 1<<limbBits - 1
	wordBits = 64
)

// one returns the list of limbs that stands for 1.
func one() []uint32 { return []uint32{1} }

func isOne(l []uint32) bool { return len(l) == 1 && l[0] == 1 }

func isProper(l []uint32) bool { return len(l) == 0 || l[len(l)-1] != 0 }

// proper returns a list without the noughts at its end. Its capacity is cut
// as well, so that nobody reaches the rest of the array behind it.
func proper(l []uint32) []uint32 {
	n := len(l)
	for n > 0 && l[n-1] == 0 {
		n--
	}
	return l[:n:n]
}

// limb returns the limb with an index, which may be behind the end.
func limb(l []uint32, i int) uint32 {
	if i < len(l) {
		return l[i]
	}
	return 0
}

// limbsOf returns the limbs of x.
func limbsOf(x uint64) []uint32 {
	return proper([]uint32{uint32(x), uint32(x >> limbBits)})
}

// wordAt returns the 64 bits of a number from a bit on.
func wordAt(l []uint32, bit int) uint64 {
	i, shift := bit/limbBits, bit%limbBits
	low := uint64(limb(l, i)) | uint64(limb(l, i+1))<<limbBits
	return low>>shift | uint64(limb(l, i+2))<<(wordBits-shift)
}

// bitLen returns the number of bits of a number, without leading noughts.
func bitLen(l []uint32) int {
	if len(l) == 0 {
		return 0
	}
	return limbBits*(len(l)-1) + bits.Len32(l[len(l)-1])
}

// compare returns -1, 0 or 1, as a is less than, equal to or greater than b.
func compare(a, b []uint32) int {
	if len(a) != len(b) {
		return order(len(a) < len(b))
	}
	for i := len(a) - 1; i >= 0; i-- {
		if a[i] != b[i] {
			return order(a[i] < b[i])
		}
	}
	return 0
}

func order(less bool) int {
	if less {
		return -1
	}
	return 1
}

// addTimes adds m times the number of l to the limbs of row, which are as
// many, and returns what is carried behind them. Neither has to be proper.
func addTimes(row, l []uint32, m uint32) uint32 {
	carry := uint64(0)
	for i, x := range l {
		carry += uint64(row[i]) + uint64(x)*uint64(m)
		row[i] = uint32(carry)
		carry >>= limbBits
	}
	return uint32(carry)
}

// takeTimes takes m times the number of l from the limbs of row, which are as
// many, and returns what is borrowed from behind them. Neither has to be
// proper.
func takeTimes(row, l []uint32, m uint32) uint32 {
	borrow := uint64(0)
	for i, x := range l {
		borrow += uint64(x) * uint64(m)
		low := uint32(borrow)
		borrow >>= limbBits
		if row[i] < low {
			borrow++
		}
		row[i] -= low
	}
	return uint32(borrow)
}

// addCarry adds a limb to the limbs of row, and returns what is carried
// behind them. The row does not have to be proper.
func addCarry(row []uint32, carry uint32) uint32 {
	for i := range row {
		row[i], carry = bits.Add32(row[i], carry, 0)
	}
	return carry
}

// plus returns a + b.
func plus(a, b []uint32) []uint32 {
	if len(a) < len(b) {
		a, b = b, a
	}
	both, all := len(b), len(a)
	out := make([]uint32, all+1)
	copy(out, a)
	carry := addTimes(out[:both:both], b, 1)
	out[all] = addCarry(out[both:all:all], carry)
	return proper(out)
}

// times returns a * b.
func times(a, b []uint32) []uint32 {
	out := make([]uint32, len(a)+len(b))
	for i, m := range b {
		end := i + len(a)
		out[end] = addTimes(out[i:end:end], a, m)
	}
	return proper(out)
}

// lessTimes returns u * a - v * b, which must not be negative, nor have more
// limbs than the longer one of a and b; u and v are less than 2 to the power
// of 32, so that no product and carry exceeds 64 bits.
func lessTimes(a []uint32, u uint64, b []uint32, v uint64) []uint32 {
	out := make([]uint32, max(len(a), len(b)))
	add, take, borrow := uint64(0), uint64(0), uint64(0)
	for i := range out {
		add += u * uint64(limb(a, i))
		take += v * uint64(limb(b, i))
		x := add&limbMask - take&limbMask - borrow
		out[i] = uint32(x)
		add, take, borrow = add>>limbBits, take>>limbBits, x>>(wordBits-1)
	}
	return proper(out)
}

// minus returns a - b, which must not be negative.
func minus(a, b []uint32) []uint32 { return lessTimes(a, 1, b, 1) }

// byLimb returns the quotient of a and d, and the rest. The list a does not
// have to be proper; d is not 0.
func byLimb(a []uint32, d uint32) ([]uint32, uint32) {
	quotient, rest := make([]uint32, len(a)), uint32(0)
	for i := len(a) - 1; i >= 0; i-- {
		quotient[i], rest = bits.Div32(rest, a[i], d)
	}
	return proper(quotient), rest
}

// divided returns the quotient of a and b, and the rest; b is not 0.
func divided(a, b []uint32) (quotient, rest []uint32) {
	n := len(b)
	if len(a) < n {
		return nil, slices.Clone(a)
	}
	if n == 1 {
		quotient, low := byLimb(a, b[0])
		return quotient, limbsOf(uint64(low))
	}
	// The first limb of the divisor must have its highest bit for the
	// quotients to be guessed well, so both numbers are multiplied.
	scale := uint32(1) << bits.LeadingZeros32(b[n-1])
	divisor := make([]uint32, n)
	addTimes(divisor, b, scale)
	row := make([]uint32, len(a)+1)
	row[len(a)] = addTimes(row[:len(a):len(a)], a, scale)
	quotient = make([]uint32, len(row)-n)
	for i := len(quotient) - 1; i >= 0; i-- {
		quotient[i] = takeAll(row[i:i+n+1:i+n+1], divisor)
	}
	rest, _ = byLimb(row[:n:n], scale)
	return proper(quotient), rest
}

// takeAll takes the divisor from row, which has one limb more, as often as it
// can, and returns how often. The first limbs are divided to guess it: this
// is never too little, and too much by 1 at most.
func takeAll(row, divisor []uint32) uint32 {
	n := len(divisor)
	second := limbBits * (n - 2)
	guess, _ := bits.Div64(uint64(row[n]), wordAt(row, second), wordAt(divisor, second))
	count := uint32(min(guess, limbMask))
	low := row[:n:n]
	row[n] -= takeTimes(low, divisor, count)
	if row[n] != 0 {
		row[n] += addTimes(low, divisor, 1)
		count--
	}
	return count
}
