package code

import (
	"math"

	"culprit/api"
)

// Bounds of a valid code that package api does not have.
const (
	maxLocals   = api.MaxInstrs
	maxCapacity = 3
	minDraw     = 2
	maxDraw     = 6
	maxAlloc    = 99
)

// Valid returns the number of instructions of a valid code, or the index of an
// instruction that is wrong.
func Valid(c Code) (int, api.Errno) {
	if len(c.Instrs) > api.MaxInstrs {
		return 0, api.ErrLimit
	}
	if !validProcedures(c) || !validNames(c) {
		return 0, api.ErrArg
	}
	for p := range c.Begins {
		for at := c.Begins[p]; at < endOf(c, p); at++ {
			if !validInstr(c, p, at) {
				return at, api.ErrForm
			}
		}
	}
	return len(c.Instrs), api.OK
}

// endOf returns the index behind the last instruction of a procedure.
func endOf(c Code, p int) int {
	if p+1 < len(c.Begins) {
		return c.Begins[p+1]
	}
	return len(c.Instrs)
}

func validProcedures(c Code) bool {
	n := len(c.Names)
	if n == 0 || len(c.Begins) != n || len(c.Locals) != n || c.Begins[0] != 0 {
		return false
	}
	for p, begin := range c.Begins {
		// Each one being less than its end makes all of them increase, and be
		// indexes of instructions.
		if begin >= endOf(c, p) || c.Locals[p] < 0 || c.Locals[p] > maxLocals {
			return false
		}
	}
	return true
}

func validNames(c Code) bool {
	for _, x := range c.Chans {
		if x.N < 0 || x.N > maxCapacity {
			return false
		}
	}
	return increase(c.Vars, nameOf) && increase(c.Chans, nameOf) && increase(c.Locks, itself) && increase(c.Files, itself)
}

func nameOf(c api.Cell) string { return c.Name }

func itself(s string) string { return s }

// increase reports whether the names of some elements are strictly increasing.
func increase[T any](l []T, name func(T) string) bool {
	for i := 1; i < len(l); i++ {
		if name(l[i-1]) >= name(l[i]) {
			return false
		}
	}
	return true
}

// validInstr examines an instruction of the procedure p, of a code whose lists
// are valid.
func validInstr(c Code, p, at int) bool {
	x := c.Instrs[at]
	if x.Op < 0 || x.Op >= Ops {
		return false
	}
	ending := Back
	if p == len(c.Begins)-1 {
		ending = End
	}
	isEnding := x.Op == Back || x.Op == End
	isLast := at == endOf(c, p)-1
	if isEnding && x.Op != ending || isLast && !isEnding {
		return false
	}
	o := operations[x.Op]
	return allows(c, p, o.a, x.A) && allows(c, p, o.b, x.B)
}

// allows reports whether a field with a meaning may have a value in the
// procedure p.
func allows(c Code, p, meaning, value int) bool {
	low, high := bounds(c, p, meaning)
	return low <= value && value <= high
}

// bounds returns the least and the greatest value of a field with a meaning in
// the procedure p.
func bounds(c Code, p, meaning int) (int, int) {
	switch meaning {
	case anything:
		return math.MinInt, math.MaxInt
	case local:
		return 0, c.Locals[p] - 1
	case target:
		return c.Begins[p], endOf(c, p) - 1
	case procedure:
		return 0, len(c.Begins) - 1
	case procedureItself:
		return p, p
	case checkNumber:
		return 0, math.MaxInt
	case variable:
		return 0, len(c.Vars) - 1
	case channel:
		return 0, len(c.Chans) - 1
	case lock:
		return 0, len(c.Locks) - 1
	case file:
		return 0, len(c.Files) - 1
	case drawNumeral:
		return minDraw, maxDraw
	case sleepNumeral:
		return 1, api.MaxSleep
	case allocNumeral:
		return 1, maxAlloc
	}
	return 0, 0
}
