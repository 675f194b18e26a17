package code_test

import (
	"reflect"
	"slices"
	"strconv"
	"strings"
	"testing"

	"culprit/api"
	"culprit/code"
	"culprit/source"
	"culprit/typing"
)

// defs returns definitions of texts, whose second words are the names.
func defs(texts ...string) []api.Def {
	var l []api.Def
	for _, s := range texts {
		l = append(l, api.Def{Name: strings.Fields(s)[1], Text: s})
	}
	return l
}

// compile returns the code of the test t.
func compile(t *testing.T, texts ...string) code.Code {
	t.Helper()
	c, e := code.Compile(defs(texts...), "t")
	if e != api.OK {
		t.Fatalf("P8.1: Compile of\n\t%s: error %d", strings.Join(texts, "\n\t"), e)
	}
	return c
}

// linesOf returns the instructions of a code as they are printed, without the names of procedures.
func linesOf(c code.Code) string {
	var l []string
	for _, s := range code.Print(c) {
		if strings.HasPrefix(s, "  ") {
			l = append(l, s[2:])
		}
	}
	return strings.Join(l, ", ")
}

// normal returns a code whose empty lists are nil.
func normal(c code.Code) code.Code {
	v := reflect.ValueOf(&c).Elem()
	for i := range v.NumField() {
		if v.Field(i).Len() == 0 {
			v.Field(i).SetZero()
		}
	}
	return c
}

// equal is the reference of Same.
func equal(a, b code.Code) bool { return reflect.DeepEqual(normal(a), normal(b)) }

// copyOf returns a code that shares no memory with another one.
func copyOf(c code.Code) code.Code {
	return code.Code{Instrs: slices.Clone(c.Instrs), Begins: slices.Clone(c.Begins), Locals: slices.Clone(c.Locals), Vars: slices.Clone(c.Vars), Chans: slices.Clone(c.Chans), Locks: slices.Clone(c.Locks), Files: slices.Clone(c.Files), Names: slices.Clone(c.Names)}
}

var example = []string{"var x = 5;", "rec g { b = 1; a = 2; }", "proc p { if $i < g.a { x = $i * 2; } else { go p; } }", "test t { call p; check x == 5; }"}

// exampleCode has its operations in decimal digits, so that also their numbers are tested.
func exampleCode() code.Code {
	return code.Code{
		Instrs: []api.Instr{{Op: 1}, {Op: 16}, {Op: 7}, {Op: 11, A: 9}, {Op: 1}, {Op: 0, A: 2}, {Op: 6}, {Op: 17, A: 2}, {Op: 10, A: 10}, {Op: 18}, {Op: 13}, {Op: 12}, {Op: 16, A: 2}, {Op: 0, A: 5}, {Op: 9}, {Op: 14, A: 0, B: 1}, {Op: 28}},
		Begins: []int{0, 11},
		Locals: []int{1, 0},
		Vars:   []api.Cell{{Name: "g.a", N: 2}, {Name: "g.b", N: 1}, {Name: "x", N: 5}},
		Names:  []string{"p", "t"},
	}
}

func TestExample(t *testing.T) {
	c := compile(t, example...)
	if !equal(c, exampleCode()) {
		t.Errorf("P8.1: %v", c)
	}
	want := "p:|  load 0|  get 0|  less|  zero 9|  load 0|  push 2|  mul|  put 2|  jump 10|  go 0|  back|t:|  call 0|  get 2|  push 5|  equal|  check 0 1|  end"
	if got := strings.Join(code.Print(c), "|"); got != want {
		t.Errorf("P8.4: %s", got)
	}
	if a, b := code.Where(c, 10), code.Where(c, 11); a != "p" || b != "t" {
		t.Errorf("P8.3: Where: %q, %q", a, b)
	}
}

// beside are definitions for statements, in an order that is not that of their names.
var beside = []string{"var y = 3;", "var x = -4;", "rec r { m = 1; k = -2; l = 0; }", "chan d 0;", "chan c 3;", "lock l ;", "lock k ;", "file h ;", "file f ;", "proc q { }", "proc p { }"}

// all uses all of them: what it names has the numbers k, l: locks 0, 1; c, d: channels 0, 1; f, h: files 0, 1; p, q: procedures 0, 1; r.k, r.l, r.m, x, y: variables 0 to 4.
const all = " go p; go q; acquire k; acquire l; send c 0; send d 0; write f 0; write h 0; x = r.k + y;"

// TestStatements: the instructions of each statement and expression.
func TestStatements(t *testing.T) {
	for _, c := range []struct{ body, want string }{
		{"", ""},
		{"$a = 7;", "push 7, store 0"},
		{"$a = 007;", "push 7, store 0"},
		{"$a = $a;", "load 0, store 0"},
		{"$a = $b;", "load 1, store 0"},
		{"$b = $a; $a = $b;", "load 1, store 0, load 0, store 1"},
		{"x = 0;", "push 0, put 3"},
		{"y = x;", "get 3, put 4"},
		{"r.m = r.l;", "get 1, put 2"},
		{"r . k = 999;", "push 999, put 0"},
		{"x = kind;", "machine, put 3"},
		{"x = 1 + 2;", "push 1, push 2, add, put 3"},
		{"x = 1 - 2;", "push 1, push 2, sub, put 3"},
		{"x = 1 * 2;", "push 1, push 2, mul, put 3"},
		{"x = 1 < 2;", "push 1, push 2, less, put 3"},
		{"x = 1 <= 2;", "push 1, push 2, most, put 3"},
		{"x = 1 == 2;", "push 1, push 2, equal, put 3"},
		{"x = $a + x * kind;", "load 0, get 3, machine, mul, add, put 3"},
		{"x = ($a + x) * kind;", "load 0, get 3, add, machine, mul, put 3"},
		{"x = 1 - 2 - 3;", "push 1, push 2, sub, push 3, sub, put 3"},
		{"x = 1 - (2 - 3);", "push 1, push 2, push 3, sub, sub, put 3"},
		{"x = (1 < 2) == (3 <= 4);", "push 1, push 2, less, push 3, push 4, most, equal, put 3"},
		{"x = $a * r.m + (y < 3) * 2;", "load 0, get 2, mul, get 4, push 3, less, push 2, mul, add, put 3"},
		{"go p;", "go 0"},
		{"go q;", "go 1"},
		{"call p;", "call 0"},
		{"call q;", "call 1"},
		{"send c 1;", "push 1, send 0"},
		{"send d x + 1;", "get 3, push 1, add, send 1"},
		{"write f 1;", "push 1, write 0"},
		{"write h $a;", "load 0, write 1"},
		{"recv c $a;", "recv 0 0"},
		{"recv d $b; recv d $a; recv c $b;", "recv 1 0, recv 1 1, recv 0 0"},
		{"read f $a;", "read 0 0"},
		{"read h $b; read h $a; read f $b;", "read 1 0, read 1 1, read 0 0"},
		{"acquire k;", "acquire 0"},
		{"acquire l;", "acquire 1"},
		{"release k;", "release 0"},
		{"release l;", "release 1"},
		{"draw $a 2; draw $b 6;", "draw 2 0, draw 6 1"},
		{"now $a; now $b;", "now 0, now 1"},
		{"sleep 1; sleep 9;", "sleep 1, sleep 9"},
		{"alloc 1; alloc 99;", "alloc 1, alloc 99"},
		{"check 1;", "push 1, check 0 2"},
		{"check x; check $a < 2; check 0;", "get 3, check 0 2, load 0, push 2, less, check 1 2, push 0, check 2 2"},
	} {
		x := compile(t, append(slices.Clone(beside), "test t { "+c.body+all+" }")...)
		got := linesOf(x)
		const before = "back, back, "
		behind := "go 0, go 1, acquire 0, acquire 1, push 0, send 0, push 0, send 1, push 0, write 0, push 0, write 1, get 0, get 4, add, put 3, end"
		want := before + behind
		if c.want != "" {
			want = before + c.want + ", " + behind
		}
		if got != want {
			t.Errorf("P8.1: the instructions of %q:\n\t%s; want\n\t%s", c.body, got, want)
		}
	}
}

// TestBranches: where jumps lead, also from one to the next, in loops, and to the end.
func TestBranches(t *testing.T) {
	for _, c := range []struct{ body, want string }{
		{"if 1 { }", "push 1, zero 2, end"},
		{"if 1 { alloc 2; }", "push 1, zero 3, alloc 2, end"},
		{"alloc 9; if 1 { alloc 2; } alloc 3;", "alloc 9, push 1, zero 4, alloc 2, alloc 3, end"},
		{"if 1 { } else { }", "push 1, zero 3, jump 3, end"},
		{"if 1 { alloc 2; } else { }", "push 1, zero 4, alloc 2, jump 4, end"},
		{"if 1 { } else { alloc 2; }", "push 1, zero 3, jump 4, alloc 2, end"},
		{"if 1 { alloc 2; alloc 3; } else { alloc 4; } alloc 5;", "push 1, zero 5, alloc 2, alloc 3, jump 6, alloc 4, alloc 5, end"},
		{"if 1 { if 2 { alloc 3; } else { alloc 4; } }", "push 1, zero 7, push 2, zero 6, alloc 3, jump 7, alloc 4, end"},
		{"if 1 { } else { if 2 { alloc 3; } else { alloc 4; } }", "push 1, zero 3, jump 8, push 2, zero 7, alloc 3, jump 8, alloc 4, end"},
		{"while 1 { }", "push 1, zero 3, jump 0, end"},
		{"while 1 < 2 { alloc 3; }", "push 1, push 2, less, zero 6, alloc 3, jump 0, end"},
		{"alloc 9; while 1 { alloc 3; } alloc 4;", "alloc 9, push 1, zero 5, alloc 3, jump 1, alloc 4, end"},
		{"while 1 { while 2 { alloc 3; } }", "push 1, zero 7, push 2, zero 6, alloc 3, jump 2, jump 0, end"},
		{"while 1 { if 2 { alloc 3; } }", "push 1, zero 6, push 2, zero 5, alloc 3, jump 0, end"},
		{"while 1 { if 2 { } else { } }", "push 1, zero 6, push 2, zero 5, jump 5, jump 0, end"},
		{"if 1 { while 2 { } }", "push 1, zero 5, push 2, zero 5, jump 2, end"},
		{"if 1 { while 2 { } } else { while 3 { } }", "push 1, zero 6, push 2, zero 5, jump 2, jump 9, push 3, zero 9, jump 6, end"},
	} {
		if got := linesOf(compile(t, "test t { "+c.body+" }")); got != c.want {
			t.Errorf("P8.1: the instructions of %q:\n\t%s; want\n\t%s", c.body, got, c.want)
		}
	}
	// jumps of a procedure behind another one
	c := compile(t, "proc p { alloc 1; while $a { alloc 2; } }", "proc q { if $a { call p; } else { } }", "test t { while $a { call q; } }")
	if got, want := linesOf(c), "alloc 1, load 0, zero 5, alloc 2, jump 1, back, load 0, zero 10, call 0, jump 10, back, load 0, zero 15, call 1, jump 11, end"; got != want {
		t.Errorf("P8.1: jumps of several procedures:\n\t%s; want\n\t%s", got, want)
	}
}

// TestLocals: locals have their numbers by the text, not by the order of the instructions, in each procedure anew.
func TestLocals(t *testing.T) {
	for _, c := range []struct {
		body  string
		want  string
		count int
	}{
		{"", "end", 0},
		{"$a = $b + $c;", "load 1, load 2, add, store 0, end", 3},
		{"$b = ($c - $b) * $a;", "load 1, load 0, sub, load 2, mul, store 0, end", 3},
		{"draw $z 2; now $y; $x = $y;", "draw 2 0, now 1, load 1, store 2, end", 3},
		{"recv c $b; read f $a; send c $d; write f $b;", "recv 0 0, read 0 1, load 2, send 0, load 0, write 0, end", 3},
		{"v = $b; check $a;", "load 0, put 0, load 1, check 0 0, end", 2},
		{"if $c { $b = 1; } else { $a = 2; }", "load 0, zero 5, push 1, store 1, jump 7, push 2, store 2, end", 3},
		{"while $c { now $b; } now $a; now $b; now $c;", "load 0, zero 4, now 1, jump 0, now 2, now 1, now 0, end", 3},
		{"$c = 1; $c = $c;", "push 1, store 0, load 0, store 0, end", 1},
		{"$v = v; v = $v; $f = v; $c = $f;", "get 0, store 0, load 0, put 0, get 0, store 1, load 1, store 2, end", 3},
		{"$if = 1; $kind = kind + $if;", "push 1, store 0, machine, load 0, add, store 1, end", 2},
		{"now $b; now $a1; now $a; now $aa;", "now 0, now 1, now 2, now 3, end", 4},
	} {
		x := compile(t, "var v = 0;", "chan c 1;", "file f ;", "test t { "+c.body+" }")
		if got := linesOf(x); got != c.want || !slices.Equal(x.Locals, []int{c.count}) {
			t.Errorf("P8.1: the locals of %q: %v, %s; want %d, %s", c.body, x.Locals, got, c.count, c.want)
		}
	}
	x := compile(t, "proc p { now $a; now $b; now $c; }", "proc q { now $c; now $b; call p; }", "proc r { call q; }", "test t { now $b; call r; }")
	if got, want := linesOf(x), "now 0, now 1, now 2, back, now 0, now 1, call 0, back, call 1, back, now 0, call 2, end"; got != want || !slices.Equal(x.Locals, []int{3, 2, 0, 1}) {
		t.Errorf("P8.1: the locals of several procedures: %v, %s", x.Locals, got)
	}
}

// TestChecks: checks have their numbers in the order of the text, in each procedure anew.
func TestChecks(t *testing.T) {
	c := compile(t, "proc a { check 1; check 2; }", "proc b { while 3 { check 4; if 5 { check 6; } else { check 7; } check 8; } call a; check 9; }", "proc z { }", "test t { call z; check 1; call b; check 2; }")
	want := "push 1, check 0 0, push 2, check 1 0, back, push 3, zero 19, push 4, check 0 1, push 5, zero 14, push 6, check 1 1, jump 16, push 7, check 2 1, push 8, check 3 1, jump 5, call 0, push 9, check 4 1, back, back, call 2, push 1, check 0 3, call 1, push 2, check 1 3, end"
	if got := linesOf(c); got != want {
		t.Errorf("P8.1: checks:\n\t%s; want\n\t%s", got, want)
	}
}

// TestLists: what a code lists, in which order, and what it leaves out.
func TestLists(t *testing.T) {
	c := compile(t,
		"var g1 = -999;", "rec g { z = 3; a = -1; m = 0; }", "var ga = 999;", "var g0 = 0;", "rec f1 { g = 7; }", "var a = 1;", "rec z { a = 4; b = 5; }", "rec zz { a = 6; }",
		"chan c2 3;", "chan c 0;", "chan c10 2;", "chan b 1;",
		"lock m ;", "lock k2 ;", "lock k ;", "file w ;", "file n ;", "file n1 ;",
		"proc y { call s; }", "proc s { go y; write n 1; }", "proc u { }", "proc aa { recv b $x; acquire k; read w $x; }",
		"test t { a = g1 + ga + g0 + g.a + f1.g + zz.a; call y; call u; call aa; send c 1; send c2 1; send c10 1; acquire m; release k2; read n1 $x; }",
		"test other { call y; }")
	want := code.Code{
		Vars:  []api.Cell{{Name: "a", N: 1}, {Name: "f1.g", N: 7}, {Name: "g.a", N: -1}, {Name: "g.m", N: 0}, {Name: "g.z", N: 3}, {Name: "g0", N: 0}, {Name: "g1", N: -999}, {Name: "ga", N: 999}, {Name: "zz.a", N: 6}},
		Chans: []api.Cell{{Name: "b", N: 1}, {Name: "c", N: 0}, {Name: "c10", N: 2}, {Name: "c2", N: 3}},
		Locks: []string{"k", "k2", "m"},
		Files: []string{"n", "n1", "w"},
		Names: []string{"aa", "s", "u", "y", "t"},
	}
	got := c
	got.Instrs, got.Begins, got.Locals = nil, nil, nil
	if !equal(got, want) {
		t.Errorf("P8.1: lists: %v; want %v", got, want)
	}
	if !slices.Equal(c.Begins, []int{0, 4, 8, 9, 11}) || !slices.Equal(c.Locals, []int{1, 0, 0, 0, 1}) {
		t.Errorf("P8.1: Begins %v, Locals %v", c.Begins, c.Locals)
	}
	if got, want := linesOf(c), "recv 0 0, acquire 0, read 2 0, back, go 3, push 1, write 0, back, back, call 1, back, get 6, get 7, add, get 5, add, get 2, add, get 1, add, get 8, add, put 0, call 3, call 2, call 0, push 1, send 1, push 1, send 3, push 1, send 2, acquire 2, release 1, read 1 0, end"; got != want {
		t.Errorf("P8.1: instructions:\n\t%s; want\n\t%s", got, want)
	}
	// Only what the test rests on is listed, but all fields of a record.
	few := compile(t, "var unused = 1;", "rec none { }", "rec idle { a = 1; }", "chan still 1;", "lock free ;", "file empty ;", "proc never { call p; }", "test other { call p; }", "rec g { b = 1; c = 2; a = 3; }", "proc p { g.b = 1; }", "test t { go p; }")
	if !equal(few, code.Code{Instrs: []api.Instr{{Op: code.Push, A: 1}, {Op: code.Put, A: 1}, {Op: code.Back}, {Op: code.Go}, {Op: code.End}}, Begins: []int{0, 3}, Locals: []int{0, 0}, Vars: []api.Cell{{Name: "g.a", N: 3}, {Name: "g.b", N: 1}, {Name: "g.c", N: 2}}, Names: []string{"p", "t"}}) {
		t.Errorf("P8.1: lists: %v", few)
	}
	// The test is last, wherever its name is.
	for _, test := range []string{"a", "n", "z"} {
		c, e := code.Compile(defs("proc b { go y; }", "proc y { }", "test "+test+" { call b; }"), test)
		if e != api.OK || !slices.Equal(c.Names, []string{"b", "y", test}) || linesOf(c) != "go 1, back, back, call 0, end" {
			t.Errorf("P8.1: of the test %q: %v, error %d", test, c, e)
		}
	}
}

func checkError(t *testing.T, what string, l []api.Def, test string, want api.Errno) {
	t.Helper()
	c, e := code.Compile(l, test)
	if e != want {
		t.Errorf("P8.1: Compile of %s, test %q: error %d; want %d", what, test, e, want)
	}
	if e != api.OK && !equal(c, code.Code{}) {
		t.Errorf("P8.1: Compile of %s, test %q, returns a code with an error: %v", what, test, c)
	}
}

func TestErrors(t *testing.T) {
	kinds := defs("var x = 1;", "rec r { a = 1; }", "chan c 1;", "lock l ;", "file f ;", "proc p { call q; }", "proc q { }", "test t { call p; }", "test u { }")
	for _, test := range []string{"t", "u"} {
		checkError(t, "all kinds", kinds, test, api.OK)
	}
	for _, test := range []string{"x", "r", "c", "l", "f", "p", "q"} {
		checkError(t, "all kinds", kinds, test, api.ErrType)
	}
	for _, test := range []string{"", "v", "T", "tt", "t ", "r.a", "$a", "test"} {
		checkError(t, "all kinds", kinds, test, api.ErrNone)
	}
	checkError(t, "nothing", nil, "t", api.ErrNone)
	checkError(t, "an empty list", []api.Def{}, "", api.ErrNone)
	checkError(t, "empty definitions", make([]api.Def, 3), "", api.ErrForm)
	var locks []api.Def
	for i := range 23 {
		locks = append(locks, defs("lock l"+strconv.Itoa(i)+" ;")...)
	}
	checkError(t, "24 definitions", append(locks, defs("test t { }")...), "t", api.OK)
	checkError(t, "25 definitions", append(locks, defs("test t { }", "x y")...), "t", api.ErrLimit)
	// The errors of typing.Slice come first, also for what is no test, and in definitions on which the test does not rest.
	for _, c := range []struct {
		text string
		want api.Errno
	}{
		{"lock w", api.ErrForm}, {"chan w 4;", api.ErrRange}, {"lock w ;" + strings.Repeat(" ", 1017), api.ErrLimit}, {"lock l ;", api.ErrTwice}, {"rec w { a = 1; a = 2; }", api.ErrTwice}, {"test w { x = no; }", api.ErrNone}, {"test w { x = p; }", api.ErrType}, {"test w { call l; }", api.ErrType}, {"test w { x = r.b; }", api.ErrNone}, {"proc w { call w; }", api.ErrCycle},
	} {
		for _, test := range []string{"t", "u", "p", "x", "none"} {
			checkError(t, strconv.Quote(c.text), append(slices.Clone(kinds), defs(c.text)...), test, c.want)
		}
	}
	checkError(t, "another name", append(slices.Clone(kinds), api.Def{Name: "w", Text: "lock v;"}), "t", api.ErrName)
}

// sized returns definitions with a test t of n instructions in all, if n is from 501 to 599, and those that the texts add.
func sized(n int, texts ...string) []api.Def {
	long := strings.Repeat("go a;", 99)
	l := defs("proc a { "+long+" }", "proc b { "+long+" }", "proc c { "+long+" }", "proc d { "+long+" }", "test t { go a; go b; go c; go d; "+strings.Repeat("go a;", n-405)+" }")
	return append(l, defs(texts...)...)
}

func TestLimit(t *testing.T) {
	for _, n := range []int{510, 511, 512} {
		c, e := code.Compile(sized(n), "t")
		if e != api.OK || len(c.Instrs) != n {
			t.Errorf("P8.1: Compile of %d instructions: %d, error %d", n, len(c.Instrs), e)
		}
		if got, e := code.Valid(c); got != n || e != api.OK {
			t.Errorf("P8.8: Valid of %d instructions: %d, error %d", n, got, e)
		}
	}
	for _, n := range []int{513, 514, 599} {
		checkError(t, strconv.Itoa(n)+" instructions", sized(n), "t", api.ErrLimit)
	}
	// Only the instructions of what a test rests on count.
	more := "proc y { " + strings.Repeat("go a;", 90) + " }"
	checkError(t, "512 instructions and others", sized(512, more, "test z { call y; }"), "t", api.OK)
	checkError(t, "493 instructions", sized(512, more, "test z { call y; }"), "z", api.OK)
	checkError(t, "a proc with more than 512 instructions", sized(512, "proc y { go b; go c; go d; call a; "+strings.Repeat("go a;", 150)+" }"), "y", api.ErrType)
	var l []api.Def
	for _, name := range strings.Split("abcdefghijklmnopqrstuvw", "") {
		l = append(l, defs("proc "+name+" { "+strings.Repeat("$a=$a+1;", 125)+" }")...)
	}
	checkError(t, "long procedures", append(l, defs("test x { go "+strings.Join(strings.Split("abcdefghijklmnopqrstuvw", ""), "; go ")+"; }")...), "x", api.ErrLimit)
}

// TestMany: many locals and deep expressions still make a valid code.
func TestMany(t *testing.T) {
	var body, lines []string
	for i := range 152 {
		local := "$" + string(rune('a'+i%26)) + strings.Repeat("q", i/26/3) + []string{"", "a", "b"}[i/26%3]
		if i%19 == 0 {
			local = "check " + local
			lines = append(lines, "load "+strconv.Itoa(i))
		} else {
			lines = append(lines, "load "+strconv.Itoa(i), "add")
		}
		if i%19 == 18 {
			local += ";"
			lines = append(lines, "check "+strconv.Itoa(i/19)+" 0")
		} else {
			local += "+"
		}
		body = append(body, local)
	}
	c := compile(t, "test t { "+strings.Join(body, "")+" }")
	if got, want := linesOf(c), strings.Join(lines, ", ")+", end"; got != want || !slices.Equal(c.Locals, []int{152}) {
		t.Errorf("P8.1: many locals: %v,\n\t%s; want\n\t%s", c.Locals, got, want)
	}
	// The depth of the tree of deep is 24.
	deep := "test t { check " + strings.Repeat("1+(", 20) + "2" + strings.Repeat(")", 20) + "; }"
	if got, want := linesOf(compile(t, deep)), strings.Repeat("push 1, ", 20)+"push 2, "+strings.Repeat("add, ", 20)+"check 0 0, end"; got != want {
		t.Errorf("P8.1: a deep expression: %s", got)
	}
}

// programs calls a function with many programs, and the tests of each.
func programs(n int, f func(m *maker, l []definition, test string, want reference)) {
	for seed := range n {
		m := &maker{Rand: newRand(uint64(seed))}
		l, tests := m.program()
		for _, test := range tests {
			f(m, l, test, refCompile(l, test))
		}
	}
}

// TestReference: the code of programs made by chance is that of the reference.
func TestReference(t *testing.T) {
	seen := make([]int, code.Ops)
	limit := 0
	programs(1500, func(m *maker, l []definition, test string, want reference) {
		given := texts(l)
		got, e := code.Compile(given, test)
		if len(want.code.Instrs) > 512 {
			limit++
			if e != api.ErrLimit || !equal(got, code.Code{}) {
				t.Errorf("P8.1: more than 512 instructions: error %d", e)
			}
			return
		}
		if e != api.OK || !equal(got, want.code) {
			t.Errorf("P8.1: the code of %q of\n%q:\n\t%v, error %d; want\n\t%v", test, texts(l), got, e, want.code)
		}
		if !slices.Equal(given, texts(l)) {
			t.Error("Compile changed its argument")
		}
		for _, x := range got.Instrs {
			seen[x.Op]++
		}
	})
	for op, n := range seen {
		if n < 20 {
			t.Errorf("the programs have %q only %d times", words[op], n)
		}
	}
	t.Log(seen, limit)
}

// TestRests: what is beside the slice, the order, blanks and parentheses do not count.
func TestRests(t *testing.T) {
	programs(700, func(m *maker, l []definition, test string, want reference) {
		base, e := code.Compile(texts(l), test)
		check := func(what string, l []api.Def) {
			t.Helper()
			if got, gotE := code.Compile(l, test); gotE != e || !equal(got, base) {
				t.Errorf("P8.6: the code of %q with %s:\n%q\n\t%v, error %d; want\n\t%v, error %d", test, what, l, got, gotE, base, e)
			}
		}
		slice, _ := typing.Slice(texts(l), test)
		check("the slice alone", slice)
		check("other blanks and further parentheses", looseTexts(l, m.Rand))
		m.Shuffle(len(l), func(i, j int) { l[i], l[j] = l[j], l[i] })
		check("another order", texts(l))
		check("another order, blanks and parentheses", looseTexts(l, m.Rand))
		more := defs("test other { now $a; check aab; }", "var aab = 5;", "rec aac { a = 1; }", "proc more { check aab; }")
		check("other definitions behind", append(texts(l), more...))
		check("other definitions ahead", append(more, texts(l)...))
	})
}

// counts returns how many instructions the nodes of a procedure have to have, by their operations, and how many in all.
func counts(n api.Node) ([]int, int) {
	found := make([]int, code.Ops)
	sum := 1 // Back or End
	var visit func(n api.Node)
	visit = func(n api.Node) {
		kids := n.Kids
		op := -1
		switch n.Kind {
		case source.Num:
			op = code.Push
		case source.Local:
			op = code.Load
		case source.Name, source.Field:
			op = code.Get
		case source.If:
			op = code.Zero
			if len(kids) == 3 {
				found[code.Jump]++
				sum++
			}
		case source.While:
			op = code.Zero
			found[code.Jump]++
			sum++
		case source.Set:
			kids = kids[1:] // the place is not in an expression
			sum++
		case source.Recv, source.Read:
			kids = nil
			sum++
		case source.Block, source.Proc, source.Test:
		default:
			sum++
		}
		if op >= 0 {
			found[op]++
			sum++
		}
		for _, kid := range kids {
			visit(kid)
		}
	}
	visit(n)
	return found, sum
}

func TestCounts(t *testing.T) {
	programs(700, func(m *maker, l []definition, test string, _ reference) {
		given := texts(l)
		c, e := code.Compile(given, test)
		if e != api.OK {
			return
		}
		for p, name := range c.Names {
			end := append(slices.Clone(c.Begins), len(c.Instrs))[p+1]
			at := slices.IndexFunc(given, func(d api.Def) bool { return d.Name == name })
			tree, _, _ := source.Parse(given[at].Text)
			want, sum := counts(tree)
			if got := end - c.Begins[p]; got != sum {
				t.Errorf("P8.7: %q has %d instructions; want %d", given[at].Text, got, sum)
			}
			got := make([]int, code.Ops)
			for _, x := range c.Instrs[c.Begins[p]:end] {
				got[x.Op]++
			}
			for _, op := range []int{code.Push, code.Load, code.Get, code.Zero, code.Jump} {
				if got[op] != want[op] {
					t.Errorf("P8.7: %q has %d times %s; want %d", given[at].Text, got[op], words[op], want[op])
				}
			}
		}
	})
}

// pops and pushes tell what an operation does with the stack.
func popsAndPushes(op int) (int, int) {
	switch op {
	case code.Push, code.Load, code.Machine, code.Get:
		return 0, 1
	case code.Add, code.Sub, code.Mul, code.Less, code.Most, code.Equal:
		return 2, 1
	case code.Store, code.Zero, code.Check, code.Put, code.Send, code.Write:
		return 1, 0
	}
	return 0, 0
}

// heights follows all ways from the beginning of each procedure, and returns how high the stack is ahead of each instruction, -1 where no way leads.
func heights(t *testing.T, c code.Code) []int {
	height := slices.Repeat([]int{-1}, len(c.Instrs))
	var follow func(at, high int)
	follow = func(at, high int) {
		if height[at] >= 0 {
			if height[at] != high {
				t.Errorf("P8.8: the stack is %d or %d high at %d of\n%s", height[at], high, at, linesOf(c))
			}
			return
		}
		height[at] = high
		x := c.Instrs[at]
		pops, pushes := popsAndPushes(x.Op)
		if pops > high {
			t.Errorf("P8.8: popped below the beginning at %d of\n%s", at, linesOf(c))
			return
		}
		high += pushes - pops
		switch x.Op {
		case code.Jump:
			follow(x.A, high)
		case code.Zero:
			follow(x.A, high)
			follow(at+1, high)
		case code.Back, code.End:
		default:
			follow(at+1, high)
		}
	}
	for _, begin := range c.Begins {
		follow(begin, 0)
	}
	return height
}

func TestStack(t *testing.T) {
	programs(1000, func(m *maker, l []definition, test string, want reference) {
		c, e := code.Compile(texts(l), test)
		if e != api.OK {
			return
		}
		if n, e := code.Valid(c); n != len(c.Instrs) || e != api.OK {
			t.Errorf("P8.8: Valid: %d, error %d, of\n%s", n, e, linesOf(c))
			return
		}
		height := heights(t, c)
		empty := slices.Clone(want.statements)
		for at, x := range c.Instrs {
			switch x.Op {
			case code.Jump, code.Zero:
				empty = append(empty, x.A)
			case code.Call, code.Go, code.Back, code.End:
				empty = append(empty, at)
			}
		}
		for _, at := range empty {
			if height[at] != 0 {
				t.Errorf("P8.8: the stack is %d high at %d of\n%s", height[at], at, linesOf(c))
			}
		}
	})
}

// TestMemory: results share no memory.
func TestMemory(t *testing.T) {
	texts := append(slices.Clone(beside), "test t { $a = 1; check $a;"+all+" }")
	a, b := compile(t, texts...), compile(t, texts...)
	want := copyOf(b)
	scribble(a)
	if !equal(b, want) {
		t.Error("two results of Compile share memory")
	}
	c := copyOf(want)
	lines, bytes := code.Print(c), code.Encode(c)
	again, bytesAgain := slices.Clone(lines), slices.Clone(bytes)
	scribble(c)
	if !slices.Equal(lines, again) || !slices.Equal(bytes, bytesAgain) {
		t.Error("a result shares memory with an argument")
	}
	clear(code.Print(want))
	clear(code.Encode(want))
	if !slices.Equal(code.Print(want), again) || !slices.Equal(code.Encode(want), bytesAgain) || !equal(want, b) {
		t.Error("a result shares memory with another one")
	}
	// No list of a result reaches into another one when it grows.
	grown := copyOf(b)
	_ = append(b.Instrs, api.Instr{Op: 99})
	_, _, _ = append(b.Begins, 99), append(b.Vars, api.Cell{Name: "~"}), append(b.Locks, "~")
	_, _, _ = append(b.Locals, 99), append(b.Chans, api.Cell{Name: "~"}), append(b.Files, "~")
	_ = append(b.Names, "~")
	if !equal(b, grown) {
		t.Error("lists of a result share memory")
	}
}

// scribble overwrites all elements of a code.
func scribble(c code.Code) {
	clear(c.Instrs)
	clear(c.Begins)
	clear(c.Locals)
	clear(c.Vars)
	clear(c.Chans)
	clear(c.Locks)
	clear(c.Files)
	clear(c.Names)
}
