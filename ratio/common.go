package ratio

// Steps tell what some steps of Euclid's algorithm make of two numbers a and
// b: u0 * a - v0 * b and v1 * b - u1 * a, or, if odd, the opposites of these.
// All factors are less than 2 to the power of 32.
type steps struct {
	u0, v0, u1, v1 uint64
	odd            bool
}

// common returns the greatest common divisor of two numbers, of which at
// least one is not 0. It may be one of the arguments.
func common(a, b []uint32) []uint32 {
	for len(b) > 0 && max(bitLen(a), bitLen(b)) > wordBits {
		a, b = closer(a, b)
	}
	if len(b) == 0 {
		return a
	}
	return limbsOf(commonWord(wordAt(a, 0), wordAt(b, 0)))
}

func commonWord(x, y uint64) uint64 {
	for y > 0 {
		x, y = y, x%y
	}
	return x
}

// closer does one or several steps of Euclid's algorithm with two numbers, of
// which at least one has more than 64 bits, and b is not 0. Several steps at
// once (Lehmer's way) spare most of the long divisions.
func closer(a, b []uint32) ([]uint32, []uint32) {
	if compare(a, b) < 0 {
		return b, a
	}
	low := bitLen(a) - wordBits
	s := stepsOf(wordAt(a, low), wordAt(b, low))
	if s.v0 == 0 {
		_, rest := divided(a, b)
		return b, rest
	}
	if s.odd {
		return lessTimes(b, s.v0, a, s.u0), lessTimes(a, s.u1, b, s.v1)
	}
	return lessTimes(a, s.u0, b, s.v0), lessTimes(b, s.v1, a, s.u1)
}

// stepsOf returns steps that are right for two numbers, whatever their lower
// bits are: x is the highest 64 bits of the greater one, and y the bits of the
// other one at the same places. The condition is that of Collins: it is about
// the step before the last one, so the factors returned are one step behind,
// and it keeps them small.
func stepsOf(x, y uint64) steps {
	s := steps{u1: 1, odd: true}
	u, v := uint64(0), uint64(1)
	for y >= v && x-y >= s.v1+v {
		q := x / y
		x, y = y, x-q*y
		s.u0, s.u1, u = s.u1, u, s.u1+q*u
		s.v0, s.v1, v = s.v1, v, s.v1+q*v
		s.odd = !s.odd
	}
	return s
}
