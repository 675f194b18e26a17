package code_test

import (
	"bytes"
	"encoding/hex"
	"math"
	"math/rand/v2"
	"slices"
	"strconv"
	"strings"
	"testing"

	"culprit/api"
	"culprit/code"
)

// TestOperations: the numbers of the operations, and which are visible.
func TestOperations(t *testing.T) {
	ops := []int{code.Push, code.Load, code.Store, code.Machine, code.Add, code.Sub, code.Mul, code.Less, code.Most, code.Equal, code.Jump, code.Zero, code.Call, code.Back, code.Check, code.Alloc, code.Get, code.Put, code.Go, code.Send, code.Recv, code.Acquire, code.Release, code.Draw, code.Now, code.Sleep, code.Write, code.Read, code.End, code.Ops}
	for i, op := range ops {
		if op != i {
			t.Errorf("the operation %d has the number %d", i, op)
		}
	}
	visible := strings.Fields("get put go send recv acquire release draw now sleep write read end")
	for op, word := range words {
		if code.Visible(op) != slices.Contains(visible, word) {
			t.Errorf("P8.3: Visible of %s: %t", word, code.Visible(op))
		}
	}
	for _, op := range []int{-1, -2, -16, -28, math.MinInt, code.Ops, code.Ops + 1, 256 + code.Get, 1<<32 + code.Get, math.MaxInt} {
		if code.Visible(op) {
			t.Errorf("P8.3: Visible of %d", op)
		}
	}
}

func TestWhere(t *testing.T) {
	instrs := make([]api.Instr, 9)
	for _, c := range []struct {
		what   string
		begins []int
		names  []string
		want   string // of the instructions 0 to 8
	}{
		{"two procedures", []int{0, 4}, []string{"p", "t"}, "ppppttttt"},
		{"one procedure", []int{0}, []string{"t"}, "ttttttttt"},
		{"the last instruction alone", []int{0, 8}, []string{"p", "t"}, "ppppppppt"},
		{"nothing", nil, nil, "---------"},
		{"no names", []int{0, 3}, nil, "---------"},
		{"no begins", nil, []string{"a", "b"}, "---------"},
		{"more names", []int{0, 3}, []string{"a", "b", "c"}, "aaabbbbbb"},
		{"more begins", []int{0, 3, 5}, []string{"a", "b"}, "aaabbbbbb"},
		{"not from 0 on", []int{2, 5}, []string{"a", "b"}, "--aaabbbb"},
		{"decreasing", []int{5, 2}, []string{"a", "b"}, "--bbbbbbb"},
		{"in no order", []int{4, 6, 1, 7, 3}, []string{"a", "b", "c", "d", "e"}, "-cceeeeee"},
		{"in no order, with fewer names", []int{4, 6, 1, 7, 3}, []string{"a", "b", "c", "d"}, "-ccccccdd"},
		{"the same twice", []int{0, 3, 3}, []string{"a", "b", "c"}, "aaacccccc"},
		{"below 0", []int{-3, 4}, []string{"a", "b"}, "aaaabbbbb"},
		{"the least number last", []int{0, math.MinInt}, []string{"a", "b"}, "bbbbbbbbb"},
		{"the greatest number", []int{0, math.MaxInt}, []string{"a", "b"}, "aaaaaaaaa"},
		{"behind the end", []int{9, 10}, []string{"a", "b"}, "---------"},
	} {
		x := code.Code{Instrs: instrs, Begins: c.begins, Names: c.names}
		for pc, want := range c.want {
			if got := code.Where(x, pc); got != strings.Trim(string(want), "-") {
				t.Errorf("P8.3: Where, %s: of %d %q; want %q", c.what, pc, got, string(want))
			}
		}
		for _, pc := range []int{-1, -2, 9, 10, math.MinInt, math.MaxInt} {
			if got := code.Where(x, pc); got != "" {
				t.Errorf("P8.3: Where, %s: of %d, which is no index: %q", c.what, pc, got)
			}
		}
	}
	if got := code.Where(code.Code{Begins: []int{0}, Names: []string{"a"}}, 0); got != "" {
		t.Errorf("P8.3: Where without instructions: %q", got)
	}
	// An empty name is not skipped.
	x := code.Code{Instrs: instrs, Begins: []int{0, 2}, Names: []string{"a", ""}}
	if a, b := code.Where(x, 1), code.Where(x, 2); a != "a" || b != "" {
		t.Errorf("P8.3: Where with an empty name: %q, %q", a, b)
	}
	long := code.Code{Instrs: make([]api.Instr, 2000), Begins: []int{0, 1999}, Names: []string{"a", "b"}}
	if a, b, c := code.Where(long, 1998), code.Where(long, 1999), code.Where(long, 2000); a != "a" || b != "b" || c != "" {
		t.Errorf("P8.3: Where with more than 512 instructions: %q, %q, %q", a, b, c)
	}
}

// TestWhereOfCompiled: each instruction of a test is in the procedure to which it belongs.
func TestWhereOfCompiled(t *testing.T) {
	programs(150, func(_ *maker, l []definition, test string, _ reference) {
		c, e := code.Compile(texts(l), test)
		if e != api.OK {
			return
		}
		for pc := range c.Instrs {
			if got, want := code.Where(c, pc), c.Names[procedureAt(c, pc)]; got != want {
				t.Errorf("P8.3: Where of %d: %q; want %q", pc, got, want)
			}
		}
	})
}

// TestPrint: the line of each operation, with A and B as far as they have a meaning.
func TestPrint(t *testing.T) {
	c := various()
	c.Locals[1] = 12
	c.Names = []string{"p", "", "a b\n"}
	c.Begins = []int{0, 1, 31}
	c.Instrs = []api.Instr{
		{Op: code.Back},
		{Op: code.Push, A: -17}, {Op: code.Push}, {Op: code.Push, A: math.MinInt}, {Op: code.Load, A: 11}, {Op: code.Store}, {Op: code.Machine}, {Op: code.Add}, {Op: code.Sub}, {Op: code.Mul}, {Op: code.Less}, {Op: code.Most}, {Op: code.Equal},
		{Op: code.Jump, A: 1}, {Op: code.Zero, A: 30}, {Op: code.Call, A: 2}, {Op: code.Back}, {Op: code.Check, A: 0, B: 1}, {Op: code.Alloc, A: 99}, {Op: code.Get, A: 4}, {Op: code.Put}, {Op: code.Go, A: 0},
		{Op: code.Send, A: 1}, {Op: code.Recv, A: 1, B: 10}, {Op: code.Acquire}, {Op: code.Release}, {Op: code.Draw, A: 6, B: 0}, {Op: code.Now, A: 2}, {Op: code.Sleep, A: 9}, {Op: code.Write, A: 3}, {Op: code.Back},
		{Op: code.Read, A: 2, B: 8}, {Op: code.Check, A: math.MaxInt, B: 2}, {Op: code.End}, {Op: code.End},
	}
	want := []string{"p:", "  back", ":",
		"  push -17", "  push 0", "  push -9223372036854775808", "  load 11", "  store 0", "  machine", "  add", "  sub", "  mul", "  less", "  most", "  equal",
		"  jump 1", "  zero 30", "  call 2", "  back", "  check 0 1", "  alloc 99", "  get 4", "  put 0", "  go 0",
		"  send 1", "  recv 1 10", "  acquire 0", "  release 0", "  draw 6 0", "  now 2", "  sleep 9", "  write 3", "  back",
		"a b\n:", "  read 2 8", "  check 9223372036854775807 2", "  end", "  end"}
	checkValid(t, "all operations", c, len(c.Instrs), api.OK)
	if got := code.Print(c); !slices.Equal(got, want) {
		t.Errorf("P8.4: Print:\n%q; want\n%q", got, want)
	}
}

// TestPrintOfCompiled: the printed form, compared with the words and the tables of the tests.
func TestPrintOfCompiled(t *testing.T) {
	programs(300, func(_ *maker, l []definition, test string, _ reference) {
		c, e := code.Compile(texts(l), test)
		if e != api.OK {
			return
		}
		var want []string
		for at, x := range c.Instrs {
			if p := slices.Index(c.Begins, at); p >= 0 {
				want = append(want, c.Names[p]+":")
			}
			word := words[x.Op]
			s := "  " + word
			if fields[word][0] != "" {
				s += " " + strconv.Itoa(x.A)
			}
			if fields[word][1] != "" {
				s += " " + strconv.Itoa(x.B)
			}
			want = append(want, s)
		}
		if got := code.Print(c); !slices.Equal(got, want) {
			t.Errorf("P8.4: Print: %q; want %q", got, want)
		}
	})
}

// refInt returns the encoding of an integer as the chapter of layer 1 describes it.
func refInt(n int) []byte {
	m := uint64(n)
	if n < 0 {
		m = uint64(-1 - n)
	}
	var l []byte
	for ; m > 0; m /= 256 {
		l = slices.Insert(l, 0, byte(m%256))
	}
	l = slices.Insert(l, 0, byte(128+len(l)))
	for i := range l {
		if n < 0 {
			l[i] = 255 - l[i]
		}
	}
	return l
}

// refEncode returns the encoding of a code.
func refEncode(c code.Code) []byte {
	var out []byte
	number := func(n int) { out = append(out, refInt(n)...) }
	strs := func(l []string) {
		number(len(l))
		for _, s := range l {
			number(len(s))
			out = append(out, s...)
		}
	}
	number(3 * len(c.Instrs))
	for _, x := range c.Instrs {
		number(x.Op)
		number(x.A)
		number(x.B)
	}
	for _, l := range [][]int{c.Begins, c.Locals} {
		number(len(l))
		for _, n := range l {
			number(n)
		}
	}
	for _, l := range [][]api.Cell{c.Vars, c.Chans} {
		var names []string
		for _, x := range l {
			names = append(names, x.Name)
		}
		strs(names)
		number(len(l))
		for _, x := range l {
			number(x.N)
		}
	}
	strs(c.Locks)
	strs(c.Files)
	strs(c.Names)
	return out
}

// oddCode returns a code of which hardly anything is valid.
func oddCode() code.Code {
	return code.Code{
		Instrs: []api.Instr{{Op: -1, A: 300, B: -300}, {Op: 99, A: 0, B: math.MinInt}},
		Begins: []int{5, -5, math.MaxInt},
		Locals: []int{256},
		Vars:   []api.Cell{{Name: "b", N: -2}, {Name: "", N: 0}, {Name: "b", N: 65536}},
		Chans:  []api.Cell{{Name: "\xff\x00", N: 4}},
		Locks:  []string{"k", "k"},
		Files:  []string{""},
		Names:  []string{strings.Repeat("long", 70)},
	}
}

// TestFixedBytes: the digests come from a separate calculation.
func TestFixedBytes(t *testing.T) {
	for _, c := range []struct {
		what   string
		code   code.Code
		size   int
		digest string
	}{
		{"the example", exampleCode(), 120, "14e9d985246ce4c8baadc91bc6f7de2b"},
		{"nothing", code.Code{}, 10, "f16dbc6ea393f0c36acc2a427ecf0f9f"},
		{"an odd code", oddCode(), 365, "6ba85fd9af7ed63aad6f851d41913ea6"},
	} {
		b, d := code.Encode(c.code), code.Digest(c.code)
		if len(b) != c.size || hex.EncodeToString(d[:]) != c.digest {
			t.Errorf("P8.5: %s: %d bytes, digest %x; want %d, %s", c.what, len(b), d, c.size, c.digest)
		}
	}
	want := []byte{129, 51, 129, 1, 128, 128, 129, 16, 128, 128, 129, 7, 128, 128, 129, 11, 129, 9, 128, 129, 1, 128, 128, 128, 129, 2, 128, 129, 6, 128, 128, 129, 17, 129, 2, 128, 129, 10, 129, 10, 128, 129, 18, 128, 128, 129, 13, 128, 128, 129, 12, 128, 128, 129, 16, 129, 2, 128, 128, 129, 5, 128, 129, 9, 128, 128, 129, 14, 128, 129, 1, 129, 28, 128, 128, 129, 2, 128, 129, 11, 129, 2, 129, 1, 128, 129, 3, 129, 3, 103, 46, 97, 129, 3, 103, 46, 98, 129, 1, 120, 129, 3, 129, 2, 129, 1, 129, 5, 128, 128, 128, 128, 129, 2, 129, 1, 112, 129, 1, 116}
	if b := code.Encode(exampleCode()); !bytes.Equal(b, want) {
		t.Errorf("P8.5: Encode of the example: %v", b)
	}
}

// neighbours returns codes that differ from one another in one place, or in where an element stands.
func neighbours() []code.Code {
	l := []code.Code{{}}
	add := func(change func(c *code.Code)) {
		c := various()
		change(&c)
		l = append(l, c)
	}
	add(func(*code.Code) {})
	for i := range various().Instrs {
		add(func(c *code.Code) { c.Instrs[i].Op += 100 })
		add(func(c *code.Code) { c.Instrs[i].A++ })
		add(func(c *code.Code) { c.Instrs[i].B-- })
		add(func(c *code.Code) {
			c.Instrs = slices.Delete(c.Instrs, i, i+1)
			c.Instrs = append(c.Instrs, api.Instr{Op: i})
		})
	}
	for i := range 3 {
		add(func(c *code.Code) { c.Begins[i] += 50 })
		add(func(c *code.Code) { c.Locals[i]-- })
		add(func(c *code.Code) { c.Names[i] += "y" })
	}
	for i := range 5 {
		add(func(c *code.Code) { c.Vars[i].N++ })
		add(func(c *code.Code) { c.Vars[i].Name += "." })
	}
	for i := range 2 {
		add(func(c *code.Code) { c.Chans[i].N-- })
		add(func(c *code.Code) { c.Chans[i].Name = "" })
	}
	for i := range 4 {
		add(func(c *code.Code) { c.Files[i] += "\x80" })
	}
	add(func(c *code.Code) { c.Locks[0] = "" })
	// an element more or less
	add(func(c *code.Code) { c.Instrs = append(c.Instrs, api.Instr{}) })
	add(func(c *code.Code) { c.Instrs = c.Instrs[:5] })
	add(func(c *code.Code) { c.Begins = c.Begins[:2] })
	add(func(c *code.Code) { c.Locals = append(c.Locals, 0) })
	add(func(c *code.Code) { c.Vars = append(c.Vars, api.Cell{}) })
	add(func(c *code.Code) { c.Chans = c.Chans[:1] })
	add(func(c *code.Code) { c.Locks = append(c.Locks, "") })
	add(func(c *code.Code) { c.Locks = nil })
	add(func(c *code.Code) { c.Files = c.Files[:3] })
	add(func(c *code.Code) { c.Names = append(c.Names, "") })
	// elements that stand in another list
	add(func(c *code.Code) { c.Begins, c.Locals = c.Locals, c.Begins })
	add(func(c *code.Code) { c.Vars, c.Chans = c.Chans, c.Vars })
	add(func(c *code.Code) { c.Locks, c.Files = c.Files, c.Locks })
	add(func(c *code.Code) { c.Files, c.Names = c.Names, c.Files })
	add(func(c *code.Code) { c.Locks, c.Files = append(c.Locks, c.Files[0]), c.Files[1:] })
	add(func(c *code.Code) { c.Begins, c.Locals = append(c.Begins, c.Locals[0]), c.Locals[1:] })
	add(func(c *code.Code) { c.Files, c.Names = c.Files[:3], append([]string{c.Files[3]}, c.Names...) })
	// elements in another order, and with the bytes of their neighbours
	add(func(c *code.Code) { slices.Reverse(c.Begins) })
	add(func(c *code.Code) { slices.Reverse(c.Locals) })
	add(func(c *code.Code) { slices.Reverse(c.Vars) })
	add(func(c *code.Code) { slices.Reverse(c.Chans) })
	add(func(c *code.Code) { slices.Reverse(c.Files) })
	add(func(c *code.Code) { slices.Reverse(c.Names) })
	add(func(c *code.Code) { c.Files[0], c.Files[1] = "aa", "a" })
	add(func(c *code.Code) { c.Names[0], c.Names[1] = "", "zz" })
	add(func(c *code.Code) { c.Vars[0].N, c.Vars[1].N = c.Vars[1].N, c.Vars[0].N })
	l = append(l, exampleCode(), oddCode())
	return l
}

// checkPair compares Same with the equality of codes, and with that of their encodings.
func checkPair(t *testing.T, a, b code.Code) {
	t.Helper()
	want := equal(a, b)
	if code.Same(a, b) != want {
		t.Errorf("P8.5: Same of\n\t%v and\n\t%v: %t", a, b, !want)
	}
	if bytes.Equal(code.Encode(a), code.Encode(b)) != want {
		t.Errorf("P8.9: the encodings of\n\t%v and\n\t%v are the same: %t", a, b, !want)
	}
	if (code.Digest(a) == code.Digest(b)) != want {
		t.Errorf("P8.5: the digests of\n\t%v and\n\t%v are the same: %t", a, b, !want)
	}
}

func TestNeighbours(t *testing.T) {
	l := neighbours()
	for i, a := range l {
		if b := code.Encode(a); !bytes.Equal(b, refEncode(a)) {
			t.Errorf("P8.5: Encode of %v: %v", a, b)
		}
		for j, b := range l {
			if equal(a, b) != (i == j) {
				t.Fatalf("the neighbours %d and %d of the test are not what they should be", i, j)
			}
			checkPair(t, a, copyOf(b))
		}
	}
}

// TestEmpty: nil and empty lists are the same.
func TestEmpty(t *testing.T) {
	a := code.Code{}
	b := code.Code{Instrs: []api.Instr{}, Begins: []int{}, Locals: []int{}, Vars: []api.Cell{}, Chans: []api.Cell{}, Locks: []string{}, Files: []string{}, Names: []string{}}
	checkPair(t, a, b)
	checkPair(t, b, a)
	if !code.Same(a, b) {
		t.Error("P8.5: nil and empty lists are not the same")
	}
	for _, c := range []code.Code{a, b} {
		if code.Valid(c); len(code.Print(c)) > 0 || code.Where(c, 0) != "" {
			t.Error("P8.3: something is in an empty code")
		}
	}
}

// anyCode returns a code with few elements from few values, so that equal ones are found.
func anyCode(r *rand.Rand) code.Code {
	number := func() int { return r.IntN(3) - 1 }
	name := func() string { return []string{"", "a", "\x81", "aa"}[r.IntN(4)] }
	var c code.Code
	for range r.IntN(2) {
		c.Instrs = append(c.Instrs, api.Instr{Op: number(), A: number(), B: number()})
	}
	for range r.IntN(2) {
		c.Begins = append(c.Begins, number())
	}
	for range r.IntN(2) {
		c.Locals = append(c.Locals, number())
	}
	for range r.IntN(2) {
		c.Vars = append(c.Vars, api.Cell{Name: name(), N: number()})
	}
	for range r.IntN(2) {
		c.Chans = append(c.Chans, api.Cell{Name: name(), N: number()})
	}
	for _, l := range []*[]string{&c.Locks, &c.Files, &c.Names} {
		for range r.IntN(2) {
			*l = append(*l, name())
		}
	}
	return c
}

func TestAny(t *testing.T) {
	r := newRand(9)
	found := map[string]code.Code{}
	again := 0
	for range 60000 {
		a := anyCode(r)
		b := code.Encode(a)
		if !bytes.Equal(b, refEncode(a)) {
			t.Fatalf("P8.5: Encode of %v: %v", a, b)
		}
		other, known := found[string(b)]
		if known {
			again++
			if !code.Same(a, other) || !equal(a, other) {
				t.Fatalf("P8.9: %v and %v have the same encoding", a, other)
			}
		}
		found[string(b)] = a
		code.Valid(a)
		code.Print(a)
		code.Where(a, 0)
	}
	if again < 1000 {
		t.Errorf("only %d codes were the same as others", again)
	}
}

// TestLong: codes that are much longer than valid ones are encoded and compared, too.
func TestLong(t *testing.T) {
	var a code.Code
	for i := range 70000 {
		a.Instrs = append(a.Instrs, api.Instr{Op: i, A: -i, B: i * i})
		a.Begins, a.Locals = append(a.Begins, i), append(a.Locals, -i)
		a.Vars, a.Chans = append(a.Vars, api.Cell{N: i}), append(a.Chans, api.Cell{N: -i})
	}
	a.Locks, a.Files, a.Names = []string{strings.Repeat("l", 70000)}, make([]string, 70000), []string{"t"}
	if !bytes.Equal(code.Encode(a), refEncode(a)) {
		t.Error("P8.5: Encode of a long code")
	}
	b := copyOf(a)
	checkPair(t, a, b)
	b.Files[69999] = "x"
	checkPair(t, a, b)
	if n, e := code.Valid(a); n != 0 || e != api.ErrLimit {
		t.Errorf("P8.2: Valid of a long code: %d, error %d", n, e)
	}
}
