package code_test

import (
	"math"
	"slices"
	"strconv"
	"strings"
	"testing"

	"culprit/api"
	"culprit/code"
)

// fields has, for the word of each operation, what A and B mean.
var fields = map[string][2]string{
	"push": {"any", ""}, "load": {"local", ""}, "store": {"local", ""}, "machine": {"", ""},
	"add": {"", ""}, "sub": {"", ""}, "mul": {"", ""}, "less": {"", ""}, "most": {"", ""}, "equal": {"", ""},
	"jump": {"here", ""}, "zero": {"here", ""}, "call": {"proc", ""}, "back": {"", ""},
	"check": {"natural", "itself"}, "alloc": {"1 99", ""},
	"get": {"var", ""}, "put": {"var", ""}, "go": {"proc", ""},
	"send": {"chan", ""}, "recv": {"chan", "local"}, "acquire": {"lock", ""}, "release": {"lock", ""},
	"draw": {"2 6", "local"}, "now": {"local", ""}, "sleep": {"1 9", ""},
	"write": {"file", ""}, "read": {"file", "local"}, "end": {"", ""},
}

// refField reports whether a field with a meaning may be n in the procedure p.
func refField(c code.Code, p int, meaning string, n int) bool {
	switch meaning {
	case "":
		return n == 0
	case "any":
		return true
	case "natural":
		return n >= 0
	case "itself":
		return n == p
	case "local":
		return n >= 0 && n < c.Locals[p]
	case "here":
		return n >= 0 && n < len(c.Instrs) && procedureAt(c, n) == p
	case "proc":
		return n >= 0 && n < len(c.Names)
	case "var":
		return n >= 0 && n < len(c.Vars)
	case "chan":
		return n >= 0 && n < len(c.Chans)
	case "lock":
		return n >= 0 && n < len(c.Locks)
	case "file":
		return n >= 0 && n < len(c.Files)
	}
	l := strings.Fields(meaning)
	low, _ := strconv.Atoi(l[0])
	high, _ := strconv.Atoi(l[1])
	return low <= n && n <= high
}

// procedureAt returns the number of the procedure of an instruction.
func procedureAt(c code.Code, at int) int {
	p := 0
	for p+1 < len(c.Begins) && c.Begins[p+1] <= at {
		p++
	}
	return p
}

// refInstr reports whether an instruction of a code whose lists are valid is valid.
func refInstr(c code.Code, at int) bool {
	x := c.Instrs[at]
	if x.Op < 0 || x.Op >= len(words) {
		return false
	}
	word, p := words[x.Op], procedureAt(c, at)
	isTest := p == len(c.Begins)-1
	if word == "back" && isTest || word == "end" && !isTest {
		return false
	}
	if at+1 == len(c.Instrs) || procedureAt(c, at+1) != p {
		if word != "back" && word != "end" {
			return false
		}
	}
	return refField(c, p, fields[word][0], x.A) && refField(c, p, fields[word][1], x.B)
}

// wantValid returns what Valid has to return for a code whose lists are valid.
func wantValid(c code.Code) (int, api.Errno) {
	for at := range c.Instrs {
		if !refInstr(c, at) {
			return at, api.ErrForm
		}
	}
	return len(c.Instrs), api.OK
}

// checkValid also checks that nothing is printed of a code that is not valid.
func checkValid(t *testing.T, what string, c code.Code, n int, want api.Errno) {
	t.Helper()
	before := copyOf(c)
	if got, e := code.Valid(c); got != n || e != want {
		t.Errorf("P8.2: Valid, %s: %d, error %d; want %d, error %d", what, got, e, n, want)
	}
	if lines := code.Print(c); (len(lines) > 0) != (want == api.OK) {
		t.Errorf("P8.4: Print, %s: %d lines", what, len(lines))
	}
	if !equal(c, before) {
		t.Errorf("P8.2: %s: the argument is changed", what)
	}
}

// various returns a valid code with 3 procedures, of which each list has another number of elements, so that none can stand for another one.
func various() code.Code {
	ops := []api.Instr{{Op: code.Machine}, {Op: code.Add}, {Op: code.Equal}, {Op: code.Sub}}
	var c code.Code
	for p, ending := range []int{code.Back, code.Back, code.End} {
		c.Begins = append(c.Begins, len(c.Instrs))
		c.Instrs = append(append(c.Instrs, ops[:2+p]...), api.Instr{Op: ending})
	}
	c.Locals = []int{8, 0, 9}
	c.Vars = []api.Cell{{Name: "a", N: -5}, {Name: "b"}, {Name: "b.a", N: 4}, {Name: "b1", N: 9999}, {Name: "c"}}
	c.Chans = []api.Cell{{Name: "a"}, {Name: "b", N: 3}}
	c.Locks = []string{"l"}
	c.Files = []string{"a", "aa", "ab", "b"}
	c.Names = []string{"z", "z", ""}
	return c
}

// TestInstructions: each operation with each number in both fields, at each place of its procedure.
func TestInstructions(t *testing.T) {
	if len(fields) != code.Ops || len(words) != code.Ops {
		t.Fatal("the tables of the test have not all operations")
	}
	base := various()
	bare := copyOf(base)
	bare.Locals = make([]int, 3)
	bare.Vars, bare.Chans, bare.Locks, bare.Files = nil, nil, nil, nil
	numbers := []int{math.MinInt, math.MinInt + 1, -100, 98, 99, 100, 511, 512, 513, math.MaxInt - 1, math.MaxInt}
	for n := -2; n <= 14; n++ {
		numbers = append(numbers, n)
	}
	valid := map[string]int{}
	for i, c := range []code.Code{base, bare} {
		checkValid(t, "as it is", c, len(c.Instrs), api.OK)
		for at, old := range c.Instrs {
			for op := -2; op <= code.Ops+2; op++ {
				for _, a := range numbers {
					for _, b := range numbers {
						c.Instrs[at] = api.Instr{Op: op, A: a, B: b}
						n, e := wantValid(c)
						if got, gotE := code.Valid(c); got != n || gotE != e {
							t.Fatalf("P8.2: Valid with %v at %d of code %d: %d, error %d; want %d, error %d", c.Instrs[at], at, i, got, gotE, n, e)
						}
						if e == api.OK && i == 0 {
							valid[words[op]]++
						}
					}
				}
			}
			c.Instrs[at] = old
		}
		for _, op := range []int{math.MinInt, math.MaxInt, 256, -256, 1 << 32} {
			c.Instrs[1].Op = op
			checkValid(t, "with the operation "+strconv.Itoa(op), c, 1, api.ErrForm)
		}
		c.Instrs[1] = api.Instr{Op: code.Add}
	}
	for _, word := range words {
		if valid[word] == 0 {
			t.Errorf("the test has no valid %s", word)
		}
	}
}

// TestFirst: of several instructions that are not valid the first one is named, in whatever procedure.
func TestFirst(t *testing.T) {
	for first := range various().Instrs {
		c := various()
		for at := range c.Instrs[first:] {
			c.Instrs[first+at].B = 9
		}
		checkValid(t, "wrong from "+strconv.Itoa(first)+" on", c, first, api.ErrForm)
	}
}

// TestEnds: more than one Back or End is allowed, but at the end there has to be one.
func TestEnds(t *testing.T) {
	c := various()
	for at := range c.Instrs {
		c.Instrs[at] = api.Instr{Op: code.Back}
		if at >= c.Begins[2] {
			c.Instrs[at].Op = code.End
		}
	}
	checkValid(t, "only endings", c, len(c.Instrs), api.OK)
	one := code.Code{Instrs: []api.Instr{{Op: code.End}}, Begins: []int{0}, Locals: []int{0}, Names: []string{"t"}}
	checkValid(t, "one End", one, 1, api.OK)
	one.Instrs[0].Op = code.Back
	checkValid(t, "one Back", one, 0, api.ErrForm)
	one.Instrs[0] = api.Instr{Op: code.Jump}
	checkValid(t, "a jump to itself at the end", one, 0, api.ErrForm)
	one.Instrs = []api.Instr{{Op: code.Jump}, {Op: code.Call}, {Op: code.Go}, {Op: code.Zero, A: 3}, {Op: code.End}}
	checkValid(t, "a test that calls itself", one, 5, api.OK)
	one.Instrs = []api.Instr{{Op: code.Add}, {Op: code.Store, A: 511}, {Op: code.Push, A: 1}, {Op: code.End}}
	one.Locals = []int{512}
	checkValid(t, "a stack that is not right", one, 4, api.OK)
}

// TestListsOfValid: what the lists of a valid code are.
func TestListsOfValid(t *testing.T) {
	n := len(various().Instrs)
	for _, c := range []struct {
		what   string
		change func(c *code.Code)
		want   api.Errno
	}{
		{"nothing changed", func(c *code.Code) {}, api.OK},
		{"no procedures", func(c *code.Code) { c.Begins, c.Locals, c.Names = nil, nil, nil }, api.ErrArg},
		{"nothing at all", func(c *code.Code) { *c = code.Code{} }, api.ErrArg},
		{"no instructions", func(c *code.Code) { c.Instrs = nil }, api.ErrArg},
		{"no instructions of one procedure", func(c *code.Code) {
			*c = code.Code{Begins: []int{0}, Locals: []int{0}, Names: []string{"t"}}
		}, api.ErrArg},
		{"Begins too short", func(c *code.Code) { c.Begins = c.Begins[:2] }, api.ErrArg},
		{"Begins too long", func(c *code.Code) { c.Begins = append(c.Begins, n-1) }, api.ErrArg},
		{"Begins empty", func(c *code.Code) { c.Begins = nil }, api.ErrArg},
		{"Locals too short", func(c *code.Code) { c.Locals = c.Locals[:2] }, api.ErrArg},
		{"Locals too long", func(c *code.Code) { c.Locals = append(c.Locals, 0) }, api.ErrArg},
		{"Locals empty", func(c *code.Code) { c.Locals = nil }, api.ErrArg},
		{"Names too short", func(c *code.Code) { c.Names = c.Names[:2] }, api.ErrArg},
		{"Names too long", func(c *code.Code) { c.Names = append(c.Names, "t") }, api.ErrArg},
		{"Names empty", func(c *code.Code) { c.Names = nil }, api.ErrArg},
		{"Names of any kind", func(c *code.Code) { c.Names = []string{"\xff\n", "a b", "a b"} }, api.OK},
		{"Begins begins with 1", func(c *code.Code) { c.Begins[0] = 1 }, api.ErrArg},
		{"Begins begins with -1", func(c *code.Code) { c.Begins[0] = -1 }, api.ErrArg},
		{"Begins with 0 again", func(c *code.Code) { c.Begins[1] = 0 }, api.ErrArg},
		{"Begins with a number below 0", func(c *code.Code) { c.Begins[1] = -1 }, api.ErrArg},
		{"Begins with the least number", func(c *code.Code) { c.Begins[2] = math.MinInt }, api.ErrArg},
		{"Begins with one number twice", func(c *code.Code) { c.Begins[1] = c.Begins[2] }, api.ErrArg},
		{"Begins decreasing", func(c *code.Code) { c.Begins[1] = c.Begins[2] + 1 }, api.ErrArg},
		{"Begins with what is no index", func(c *code.Code) { c.Begins[2] = n }, api.ErrArg},
		{"Begins with the greatest number", func(c *code.Code) { c.Begins[2] = math.MaxInt }, api.ErrArg},
		{"Locals of 512", func(c *code.Code) { c.Locals[1] = 512 }, api.OK},
		{"Locals of 513", func(c *code.Code) { c.Locals[1] = 513 }, api.ErrArg},
		{"the last Locals of 513", func(c *code.Code) { c.Locals[2] = 513 }, api.ErrArg},
		{"Locals of -1", func(c *code.Code) { c.Locals[0] = -1 }, api.ErrArg},
		{"the last Locals of -1", func(c *code.Code) { c.Locals[2] = -1 }, api.ErrArg},
		{"Locals of the greatest number", func(c *code.Code) { c.Locals[0] = math.MaxInt }, api.ErrArg},
		{"Vars with any numbers", func(c *code.Code) { c.Vars[0].N, c.Vars[1].N = math.MinInt, math.MaxInt }, api.OK},
		{"Vars with any names", func(c *code.Code) { c.Vars[0].Name, c.Vars[4].Name = "", "\xff$" }, api.OK},
		{"Vars empty", func(c *code.Code) { c.Vars = nil }, api.OK},
		{"Vars with a name twice", func(c *code.Code) { c.Vars[4].Name = "b1" }, api.ErrArg},
		{"Vars decreasing", func(c *code.Code) { c.Vars[2], c.Vars[3] = c.Vars[3], c.Vars[2] }, api.ErrArg},
		{"Vars decreasing at the beginning", func(c *code.Code) { c.Vars[0].Name = "b0" }, api.ErrArg},
		{"Vars by their numbers", func(c *code.Code) { c.Vars = []api.Cell{{Name: "b", N: 1}, {Name: "a", N: 2}} }, api.ErrArg},
		{"Vars byte by byte", func(c *code.Code) { c.Vars = []api.Cell{{Name: "g.z"}, {Name: "g0"}, {Name: "ga"}} }, api.OK},
		{"Chans of -1", func(c *code.Code) { c.Chans[0].N = -1 }, api.ErrArg},
		{"Chans of 4", func(c *code.Code) { c.Chans[1].N = 4 }, api.ErrArg},
		{"Chans from 0 to 3", func(c *code.Code) {
			c.Chans = []api.Cell{{Name: "a", N: 3}, {Name: "b", N: 2}, {Name: "c", N: 1}, {Name: "d"}}
		}, api.OK},
		{"Chans of the least number", func(c *code.Code) { c.Chans[1].N = math.MinInt }, api.ErrArg},
		{"Chans with a name twice", func(c *code.Code) { c.Chans[1].Name = "a" }, api.ErrArg},
		{"Chans decreasing", func(c *code.Code) { c.Chans[0].Name = "c" }, api.ErrArg},
		{"Chans empty", func(c *code.Code) { c.Chans = nil }, api.OK},
		{"Locks with a name twice", func(c *code.Code) { c.Locks = []string{"l", "l"} }, api.ErrArg},
		{"Locks decreasing", func(c *code.Code) { c.Locks = []string{"a", "c", "b"} }, api.ErrArg},
		{"Locks increasing", func(c *code.Code) { c.Locks = []string{"", "Z", "a", "a\x00"} }, api.OK},
		{"Files with a name twice", func(c *code.Code) { c.Files[3] = "ab" }, api.ErrArg},
		{"Files decreasing", func(c *code.Code) { c.Files[0] = "aaa" }, api.ErrArg},
		{"Files empty", func(c *code.Code) { c.Files = []string{} }, api.OK},
		{"names that several lists have", func(c *code.Code) { c.Locks, c.Files = []string{"a", "b"}, []string{"a", "b"} }, api.OK},
	} {
		x := various()
		c.change(&x)
		if c.want == api.OK {
			checkValid(t, c.what, x, n, api.OK)
			continue
		}
		checkValid(t, c.what, x, 0, c.want)
		for at := range x.Instrs {
			x.Instrs[at].Op = -1
		}
		checkValid(t, c.what+", and wrong instructions", x, 0, c.want)
	}
}

// TestLimitOfValid: too many instructions come before everything else.
func TestLimitOfValid(t *testing.T) {
	for _, n := range []int{511, 512} {
		c := code.Code{Instrs: slices.Repeat([]api.Instr{{Op: code.Add}}, n), Begins: []int{0, 1}, Locals: []int{0, 0}, Names: []string{"", ""}}
		c.Instrs[0].Op, c.Instrs[n-1].Op = code.Back, code.End
		checkValid(t, strconv.Itoa(n)+" instructions", c, n, api.OK)
		c.Instrs[n-2] = api.Instr{Op: code.Zero, A: n - 1}
		checkValid(t, "a jump to the last one", c, n, api.OK)
		c.Instrs[n-2].A = n
		checkValid(t, "a jump behind the last one", c, n-2, api.ErrForm)
		c.Names = nil
		checkValid(t, "no names", c, 0, api.ErrArg)
	}
	for _, n := range []int{513, 1000, 70000} {
		c := code.Code{Instrs: slices.Repeat([]api.Instr{{Op: code.End}}, n), Begins: []int{0}, Locals: []int{0}, Names: []string{"t"}}
		checkValid(t, strconv.Itoa(n)+" instructions", c, 0, api.ErrLimit)
		c.Begins, c.Instrs[0].Op = []int{5, -5}, -1
		checkValid(t, strconv.Itoa(n)+" instructions, and all else wrong", c, 0, api.ErrLimit)
		checkValid(t, strconv.Itoa(n)+" instructions alone", code.Code{Instrs: c.Instrs}, 0, api.ErrLimit)
	}
	// As many procedures as instructions, and one more.
	c := code.Code{Locals: make([]int, 512), Names: make([]string, 512)}
	for i := range 512 {
		c.Begins = append(c.Begins, i)
		c.Instrs = append(c.Instrs, api.Instr{Op: code.Back})
	}
	c.Instrs[511].Op = code.End
	checkValid(t, "512 procedures", c, 512, api.OK)
	c.Begins, c.Locals, c.Names = append(c.Begins, 512), append(c.Locals, 0), append(c.Names, "")
	checkValid(t, "513 procedures", c, 0, api.ErrArg)
}

// TestCompiledBent: of compiled codes with a few instructions changed the first wrong one is named.
func TestCompiledBent(t *testing.T) {
	valid, wrong := 0, 0
	programs(400, func(m *maker, l []definition, test string, _ reference) {
		c, e := code.Compile(texts(l), test)
		if e != api.OK {
			return
		}
		for range 20 {
			x := copyOf(c)
			for range 1 + m.IntN(3) {
				at := m.IntN(len(x.Instrs))
				switch m.IntN(4) {
				case 0:
					x.Instrs[at].Op = m.IntN(code.Ops+2) - 1
				case 1:
					x.Instrs[at].A += m.IntN(7) - 3
				case 2:
					x.Instrs[at].B += m.IntN(3) - 1
				default:
					x.Instrs[at] = x.Instrs[m.IntN(len(x.Instrs))]
				}
			}
			n, e := wantValid(x)
			if e == api.OK {
				valid++
			} else {
				wrong++
			}
			if got, gotE := code.Valid(x); got != n || gotE != e {
				t.Errorf("P8.2: Valid of %v: %d, error %d; want %d, error %d", x, got, gotE, n, e)
			}
		}
	})
	if valid < 500 || wrong < 500 {
		t.Errorf("only %d codes are valid, %d are not", valid, wrong)
	}
}
