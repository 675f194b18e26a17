package source_test

import (
	"math"
	"math/rand/v2"
	"slices"
	"strconv"
	"strings"
	"testing"

	"culprit/api"
	"culprit/source"
)

// node returns a node without a number.
func node(kind int, text string, kids ...api.Node) api.Node {
	return api.Node{Kind: kind, Text: text, Kids: kids}
}

// counted returns a node with a number, without kids.
func counted(kind int, text string, n int) api.Node {
	return api.Node{Kind: kind, Text: text, N: n}
}

func num(n int) api.Node { return counted(source.Num, "", n) }

func block(l ...api.Node) api.Node { return node(source.Block, "", l...) }

func proc(l ...api.Node) api.Node { return node(source.Proc, "p", block(l...)) }

// checked returns the procedure that checks an expression.
func checked(n api.Node) api.Node { return proc(node(source.Check, "", n)) }

// equal compares trees without package source.
func equal(a, b api.Node) bool {
	return a.Kind == b.Kind && a.Text == b.Text && a.N == b.N && slices.EqualFunc(a.Kids, b.Kids, equal)
}

func clone(n api.Node) api.Node {
	var kids []api.Node
	for _, k := range n.Kids {
		kids = append(kids, clone(k))
	}
	n.Kids = kids
	return n
}

func isZero(n api.Node) bool {
	return n.Kind == 0 && n.Text == "" && n.N == 0 && len(n.Kids) == 0
}

func parse(t *testing.T, s string) api.Node {
	t.Helper()
	n, at, e := source.Parse(s)
	if at != 0 || e != api.OK {
		t.Fatalf("P6.2: Parse of %.80q: %d, error %d", s, at, e)
	}
	return n
}

func checkError(t *testing.T, s string, at int, e api.Errno) {
	t.Helper()
	n, gotAt, got := source.Parse(s)
	if gotAt != at || got != e {
		t.Errorf("P6.2: Parse of %.80q: %d, error %d; want %d, error %d", s, gotAt, got, at, e)
	}
	if got != api.OK && !isZero(n) {
		t.Errorf("P6.2: Parse of %.80q: error %d with a tree of kind %d, %q, %d, %d kids", s, got, n.Kind, n.Text, n.N, len(n.Kids))
	}
}

// checkText checks that Parse makes a tree of a text, and that Print makes another text of this tree.
func checkText(t *testing.T, s string, n api.Node, printed string) {
	t.Helper()
	got, at, e := source.Parse(s)
	if at != 0 || e != api.OK || !equal(got, n) {
		t.Errorf("P6.2: Parse of %.80q: %d, error %d, or another tree, printed %.80q", s, at, e, source.Print(got))
	}
	if p := source.Print(n); p != printed {
		t.Errorf("P6.3: Print of the tree of %.80q: %.200q; want %.200q", s, p, printed)
	}
}

// checkTree checks Valid, Print and Head, and that a valid tree can be read again.
func checkTree(t *testing.T, n api.Node) {
	t.Helper()
	valid, text, kind, name := refValid(n), "", -1, ""
	if valid {
		text, kind, name = refPrint(n), n.Kind, n.Text
	}
	if got := source.Valid(n); got != valid {
		t.Errorf("P6.1: Valid of a tree of kind %d, %q, %d, %d kids, that would be %.200q: %t", n.Kind, n.Text, n.N, len(n.Kids), text, got)
	}
	if got := source.Print(n); got != text {
		t.Errorf("P6.3: Print: %.200q; want %.200q", got, text)
	}
	if k, s := source.Head(n); k != kind || s != name {
		t.Errorf("P6.4: Head: %d, %q; want %d, %q", k, s, kind, name)
	}
	if again, at, e := source.Parse(text); valid && (at != 0 || e != api.OK || !equal(again, n)) {
		t.Errorf("P6.5: Parse of what was printed, %.200q: %d, error %d, or another tree", text, at, e)
	}
}

func TestExamples(t *testing.T) {
	checkText(t, "var n=-7;", counted(source.Var, "n", -7), "var n = -7;")
	checkText(t, "test t { check 1 == kind; }", node(source.Test, "t", block(node(source.Check, "", node(source.Equal, "", num(1), node(source.Kind, ""))))), "test t { check 1 == kind; }")
	sum := node(source.Add, "", node(source.Field, "x.y"), num(1))
	let := node(source.Let, "a", node(source.Mul, "", sum, num(2)))
	less := node(source.Less, "", node(source.Local, "a"), num(3))
	p := proc(let, node(source.If, "", less, block(node(source.Go, "q")), block()))
	checkText(t, "proc p{$a=(x.y+1)*2;if $a<3{go q;}else{}}", p, "proc p { $a = (x.y + 1) * 2; if $a < 3 { go q; } else { } }")
	if size := source.Size(p); size != 15 {
		t.Errorf("P6.4: Size: %d; want 15", size)
	}
	checkError(t, "chan c 4;", 7, api.ErrRange)
	checkError(t, "test t { x = ; }", 13, api.ErrForm)
	checkError(t, "lock l", 6, api.ErrForm)
	checkError(t, "var read = 1;", 4, api.ErrForm)
}

func TestKinds(t *testing.T) {
	for i, want := range []int{source.Var, source.Rec, source.Chan, source.Lock, source.File, source.Proc, source.Test, source.Item, source.Block, source.Let, source.Set, source.If, source.While, source.Go, source.Call, source.Send, source.Recv, source.Acquire, source.Release, source.Draw, source.Now, source.Sleep, source.Write, source.Read, source.Check, source.Alloc, source.Less, source.Most, source.Equal, source.Add, source.Sub, source.Mul, source.Num, source.Local, source.Name, source.Field, source.Kind, source.Kinds} {
		if want != i {
			t.Errorf("kind %d has the number %d", i, want)
		}
	}
}

func TestDefinitions(t *testing.T) {
	checkText(t, "var x = 007;", counted(source.Var, "x", 7), "var x = 7;")
	checkText(t, "var x = 000;", counted(source.Var, "x", 0), "var x = 0;")
	checkText(t, "var x = - \n 0;", counted(source.Var, "x", 0), "var x = 0;")
	checkText(t, "var x = -999;", counted(source.Var, "x", -999), "var x = -999;")
	checkText(t, "var x = 999;", counted(source.Var, "x", 999), "var x = 999;")
	checkText(t, "rec r {}", node(source.Rec, "r"), "rec r { }")
	checkText(t, "rec r { b = 1 ; a = - 020 ; b = 3 ; }", node(source.Rec, "r", counted(source.Item, "b", 1), counted(source.Item, "a", -20), counted(source.Item, "b", 3)), "rec r { b = 1; a = -20; b = 3; }")
	for i, s := range []string{"chan c 0;", "chan c 1;", "chan c 2;", "chan c 3;"} {
		checkText(t, s, counted(source.Chan, "c", i), s)
	}
	checkText(t, "chan\nc\n003\n;", counted(source.Chan, "c", 3), "chan c 3;")
	checkText(t, "\n lock l ;\n ", node(source.Lock, "l"), "lock l;")
	checkText(t, "file f;", node(source.File, "f"), "file f;")
	checkText(t, "proc p{ }", node(source.Proc, "p", block()), "proc p { }")
	checkText(t, "test t{\n}", node(source.Test, "t", block()), "test t { }")
	checkText(t, "lock abcdefghijklmnop;", node(source.Lock, "abcdefghijklmnop"), "lock abcdefghijklmnop;")
	checkText(t, "lock z0123456789;", node(source.Lock, "z0123456789"), "lock z0123456789;")
}

func TestStatements(t *testing.T) {
	name, local := node(source.Name, "x"), node(source.Local, "v")
	for _, c := range []struct {
		s    string
		n    api.Node
		want string
	}{
		{"$v=1;", node(source.Let, "v", num(1)), "$v = 1;"},
		{"$if=$else;", node(source.Let, "if", node(source.Local, "else")), "$if = $else;"},
		{"x=1;", node(source.Set, "", name, num(1)), "x = 1;"},
		{"x . y = x. y;", node(source.Set, "", node(source.Field, "x.y"), node(source.Field, "x.y")), "x.y = x.y;"},
		{"if x{}", node(source.If, "", name, block()), "if x { }"},
		{"if(x){go q;}else{x=1;go q;}", node(source.If, "", name, block(node(source.Go, "q")), block(node(source.Set, "", name, num(1)), node(source.Go, "q"))), "if x { go q; } else { x = 1; go q; }"},
		{"while 1{while x{}}", node(source.While, "", num(1), block(node(source.While, "", name, block()))), "while 1 { while x { } }"},
		{"go q ;", node(source.Go, "q"), "go q;"},
		{"call q;", node(source.Call, "q"), "call q;"},
		{"acquire l;", node(source.Acquire, "l"), "acquire l;"},
		{"release l;", node(source.Release, "l"), "release l;"},
		{"send c x+1;", node(source.Send, "c", node(source.Add, "", name, num(1))), "send c x + 1;"},
		{"send c(x);", node(source.Send, "c", name), "send c x;"},
		{"recv c$v;", node(source.Recv, "c", local), "recv c $v;"},
		{"write f x;", node(source.Write, "f", name), "write f x;"},
		{"read f $v ;", node(source.Read, "f", local), "read f $v;"},
		{"draw $v 02;", counted(source.Draw, "v", 2), "draw $v 2;"},
		{"draw $read 6;", counted(source.Draw, "read", 6), "draw $read 6;"},
		{"now $v;", node(source.Now, "v"), "now $v;"},
		{"sleep 9;", counted(source.Sleep, "", 9), "sleep 9;"},
		{"alloc 099;", counted(source.Alloc, "", 99), "alloc 99;"},
		{"check kind;", node(source.Check, "", node(source.Kind, "")), "check kind;"},
		{"check(((kind)));", node(source.Check, "", node(source.Kind, "")), "check kind;"},
	} {
		checkText(t, "proc p {"+c.s+"}", proc(c.n), "proc p { "+c.want+" }")
		checkText(t, "test p { go q;"+c.s+c.s+"}", node(source.Test, "p", block(node(source.Go, "q"), c.n, c.n)), "test p { go q; "+c.want+" "+c.want+" }")
	}
}

func TestExpressions(t *testing.T) {
	a, b, c := node(source.Local, "a"), node(source.Name, "b"), num(0)
	op := func(kind int, l ...api.Node) api.Node { return node(kind, "", l...) }
	for _, x := range []struct {
		s    string
		n    api.Node
		want string
	}{
		{"$a<b", op(source.Less, a, b), "$a < b"},
		{"$a<=b", op(source.Most, a, b), "$a <= b"},
		{"$a==b", op(source.Equal, a, b), "$a == b"},
		{"$a+b", op(source.Add, a, b), "$a + b"},
		{"$a-b", op(source.Sub, a, b), "$a - b"},
		{"$a*b", op(source.Mul, a, b), "$a * b"},
		{"$a-b-0", op(source.Sub, op(source.Sub, a, b), c), "$a - b - 0"},
		{"$a-b+0", op(source.Add, op(source.Sub, a, b), c), "$a - b + 0"},
		{"$a-(b-0)", op(source.Sub, a, op(source.Sub, b, c)), "$a - (b - 0)"},
		{"$a+(b+0)", op(source.Add, a, op(source.Add, b, c)), "$a + (b + 0)"},
		{"($a+b)+0", op(source.Add, op(source.Add, a, b), c), "$a + b + 0"},
		{"$a*b*0", op(source.Mul, op(source.Mul, a, b), c), "$a * b * 0"},
		{"$a*(b*0)", op(source.Mul, a, op(source.Mul, b, c)), "$a * (b * 0)"},
		{"$a*b+0", op(source.Add, op(source.Mul, a, b), c), "$a * b + 0"},
		{"$a*(b+0)", op(source.Mul, a, op(source.Add, b, c)), "$a * (b + 0)"},
		{"$a+b*0", op(source.Add, a, op(source.Mul, b, c)), "$a + b * 0"},
		{"($a+b)*0", op(source.Mul, op(source.Add, a, b), c), "($a + b) * 0"},
		{"$a+b<0*$a", op(source.Less, op(source.Add, a, b), op(source.Mul, c, a)), "$a + b < 0 * $a"},
		{"$a+(b<0)*$a", op(source.Add, a, op(source.Mul, op(source.Less, b, c), a)), "$a + (b < 0) * $a"},
		{"($a<b)<0", op(source.Less, op(source.Less, a, b), c), "($a < b) < 0"},
		{"$a<=(b==0)", op(source.Most, a, op(source.Equal, b, c)), "$a <= (b == 0)"},
		{"(($a==b)==0)*0", op(source.Mul, op(source.Equal, op(source.Equal, a, b), c), c), "(($a == b) == 0) * 0"},
		{"0*(0-($a<b))", op(source.Mul, c, op(source.Sub, c, op(source.Less, a, b))), "0 * (0 - ($a < b))"},
		{"((b))", b, "b"},
		{"kind", node(source.Kind, ""), "kind"},
		{"kinds", node(source.Name, "kinds"), "kinds"},
		{"$kind", node(source.Local, "kind"), "$kind"},
		{"x.y", node(source.Field, "x.y"), "x.y"},
		{"(x\n. y)", node(source.Field, "x.y"), "x.y"},
		{"000", num(0), "0"},
		{"099", num(99), "99"},
		{"999", num(999), "999"},
	} {
		checkText(t, "proc p{check "+x.s+";}", checked(x.n), "proc p { check "+x.want+"; }")
		checkText(t, "proc p{if "+x.s+"{}}", proc(node(source.If, "", x.n, block())), "proc p { if "+x.want+" { } }")
	}
}

// TestParentheses: of what is printed, no pair of parentheses can be left out.
func TestParentheses(t *testing.T) {
	m := newMaker(1)
	for range 300 {
		n := checked(m.expr(4))
		s := source.Print(n)
		var open []int
		for i := range len(s) {
			switch s[i] {
			case '(':
				open = append(open, i)
			case ')':
				at := open[len(open)-1]
				open = open[:len(open)-1]
				less := s[:at] + s[at+1:i] + s[i+1:]
				if again, _, e := source.Parse(less); e == api.OK && equal(again, n) {
					t.Errorf("P6.3: Print: %q; %q is the same", s, less)
				}
			}
		}
	}
}

func TestErrors(t *testing.T) {
	for _, x := range []struct {
		s  string
		at int
		e  api.Errno
	}{
		{"", 0, api.ErrForm},
		{" \n ", 3, api.ErrForm},
		{"lock l;x", 7, api.ErrForm},
		{"lock l;\n\nlock l;", 9, api.ErrForm},
		{"lock l \n ", 9, api.ErrForm},
		{"lock l;\x00", 7, api.ErrForm},
		{"lock l;\r", 7, api.ErrForm},
		{"\tlock l;", 0, api.ErrForm},
		{"lock\xc3\xa4;", 4, api.ErrForm},
		{"lock lL;", 6, api.ErrForm},
		{"lock 1l;", 5, api.ErrForm},
		{"lock abcdefghijklmnopq;", 5, api.ErrForm},
		{"lock 12345678901234567;", 5, api.ErrForm},
		{"lock $l;", 5, api.ErrForm},
		{"var x = 0000;", 8, api.ErrForm},
		{"var x = +1;", 8, api.ErrForm},
		{"var x = -;", 9, api.ErrForm},
		{"var x = - -1;", 10, api.ErrForm},
		{"var x == 1;", 6, api.ErrForm},
		{"var x = y;", 8, api.ErrForm},
		{"var x.y = 1;", 5, api.ErrForm},
		{"rec r { var = 1; }", 8, api.ErrForm},
		{"rec r { a = 1 }", 14, api.ErrForm},
		{"rec r { a = 1; ", 15, api.ErrForm},
		{"rec r { };", 9, api.ErrForm},
		{"item x = 1;", 0, api.ErrForm},
		{"Lock l;", 0, api.ErrForm},
		{"{ }", 0, api.ErrForm},
		{"check 1;", 0, api.ErrForm},
		{"chan c;", 6, api.ErrForm},
		{"chan c 0004;", 7, api.ErrForm},
		{"chan c 4", 7, api.ErrRange},
		{"chan c 4 \x00", 7, api.ErrRange},
		{"chan 4 4;", 5, api.ErrForm},
		{"chan c x 4;", 7, api.ErrForm},
		{"proc p", 6, api.ErrForm},
		{"proc p;", 6, api.ErrForm},
		{"proc p { } }", 11, api.ErrForm},
		{"proc p { { } }", 9, api.ErrForm},
		{"proc p { ; }", 9, api.ErrForm},
		{"proc p { lock l; }", 9, api.ErrForm},
		{"proc p { $a == 1; }", 12, api.ErrForm},
		{"proc p { $a.b = 1; }", 11, api.ErrForm},
		{"proc p { $ a = 1; }", 9, api.ErrForm},
		{"proc p { $$a = 1; }", 9, api.ErrForm},
		{"proc p { $A = 1; }", 9, api.ErrForm},
		{"proc p { $0a = 1; }", 9, api.ErrForm},
		{"proc p { $abcdefghijklmnopq = 1; }", 9, api.ErrForm},
		{"proc p { a.$b = 1; }", 11, api.ErrForm},
		{"proc p { a.b.c = 1; }", 12, api.ErrForm},
		{"proc p { a..b = 1; }", 11, api.ErrForm},
		{"proc p { (a) = 1; }", 9, api.ErrForm},
		{"proc p { a = -1; }", 13, api.ErrForm},
		{"proc p { a = 1 +; }", 16, api.ErrForm},
		{"proc p { a = 1 2; }", 15, api.ErrForm},
		{"proc p { a = (); }", 14, api.ErrForm},
		{"proc p { a = (1; }", 15, api.ErrForm},
		{"proc p { a = 1); }", 14, api.ErrForm},
		{"proc p { a = 1 = 2; }", 15, api.ErrForm},
		{"proc p { a = 1 === 2; }", 17, api.ErrForm},
		{"proc p { a = 1 <== 2; }", 17, api.ErrForm},
		{"proc p { a = 1 < = 2; }", 17, api.ErrForm},
		{"proc p { a = 1 <= 2 == 3; }", 20, api.ErrForm},
		{"proc p { a = 1 < 2 + (3 < 4 < 5); }", 28, api.ErrForm},
		{"proc p { a = 1 > 2; }", 15, api.ErrForm},
		{"proc p { a = 1 / 2; }", 15, api.ErrForm},
		{"proc p { a = else; }", 13, api.ErrForm},
		{"proc p { a = kind.b; }", 17, api.ErrForm},
		{"proc p { a = b.kind; }", 15, api.ErrForm},
		{"proc p { if { } }", 12, api.ErrForm},
		{"proc p { if 1 { } else if 2 { } }", 23, api.ErrForm},
		{"proc p { if 1 { } else { } else { } }", 27, api.ErrForm},
		{"proc p { if 1 { } ; }", 18, api.ErrForm},
		{"proc p { while 1; }", 16, api.ErrForm},
		{"proc p { go $q; }", 12, api.ErrForm},
		{"proc p { go a.b; }", 13, api.ErrForm},
		{"proc p { call kind; }", 14, api.ErrForm},
		{"proc p { acquire 1; }", 17, api.ErrForm},
		{"proc p { release l }", 19, api.ErrForm},
		{"proc p { send c 1 }", 18, api.ErrForm},
		{"proc p { send c; }", 15, api.ErrForm},
		{"proc p { send $c 1; }", 14, api.ErrForm},
		{"proc p { recv c x; }", 16, api.ErrForm},
		{"proc p { recv c ($x); }", 16, api.ErrForm},
		{"proc p { read f 1; }", 16, api.ErrForm},
		{"proc p { write 1; }", 15, api.ErrForm},
		{"proc p { draw x 2; }", 14, api.ErrForm},
		{"proc p { draw $x; }", 16, api.ErrForm},
		{"proc p { draw $x $x; }", 17, api.ErrForm},
		{"proc p { draw $x -2; }", 17, api.ErrForm},
		{"proc p { draw $x 0002; }", 17, api.ErrForm},
		{"proc p { now x; }", 13, api.ErrForm},
		{"proc p { now 1; }", 13, api.ErrForm},
		{"proc p { sleep; }", 14, api.ErrForm},
		{"proc p { sleep $a; }", 15, api.ErrForm},
		{"proc p { alloc (1); }", 15, api.ErrForm},
		{"proc p { check; }", 14, api.ErrForm},
		{"proc p { alloc 0; x }", 15, api.ErrRange},
	} {
		checkError(t, x.s, x.at, x.e)
	}
}

// TestBounds tries all numerals where they have bounds.
func TestBounds(t *testing.T) {
	for n := range 1000 {
		numeral := strconv.Itoa(n)
		for _, c := range []struct {
			before, behind string
			low, high      int
			kind           int
		}{
			{"chan c ", ";", 0, 3, source.Chan},
			{"proc p { draw $a ", "; }", 2, 6, source.Draw},
			{"proc p { sleep ", "; }", 1, api.MaxSleep, source.Sleep},
			{"proc p { alloc ", "; }", 1, 99, source.Alloc},
			{"proc p { check ", "; }", 0, 999, source.Num},
			{"var a = ", ";", 0, 999, source.Var},
			{"rec r { a = ", "; }", 0, 999, source.Item},
		} {
			s := c.before + numeral + c.behind
			if n < c.low || n > c.high {
				checkError(t, s, len(c.before), api.ErrRange)
				continue
			}
			last := parse(t, s)
			for last.Kind != c.kind {
				last = last.Kids[0]
			}
			if last.N != n {
				t.Errorf("P6.2: Parse of %q: %d", s, last.N)
			}
		}
	}
}

// TestWordsAreNoNames tries all words of the grammar where a name is asked for, and where a local's word may be any.
func TestWordsAreNoNames(t *testing.T) {
	for _, w := range reserved {
		for _, c := range [][2]string{{"var ", " = 1;"}, {"rec ", " { }"}, {"rec r { ", " = 1; }"}, {"chan ", " 1;"}, {"lock ", ";"}, {"file ", ";"}, {"proc ", " { }"}, {"test ", " { }"}, {"proc p { a.", " = 1; }"}, {"proc p { go ", "; }"}, {"proc p { call ", "; }"}, {"proc p { acquire ", "; }"}, {"proc p { release ", "; }"}, {"proc p { send ", " 1; }"}, {"proc p { recv ", " $a; }"}, {"proc p { write ", " 1; }"}, {"proc p { read ", " $a; }"}, {"proc p { check a.", "; }"}} {
			checkError(t, c[0]+w+c[1], len(c[0]), api.ErrForm)
			checkError(t, c[0]+w+"0"+c[1], 0, api.OK)
		}
		if w != "kind" {
			checkError(t, "proc p { check "+w+"; }", 15, api.ErrForm)
		}
		checkError(t, "proc p { $"+w+" = $"+w+"; recv c $"+w+"; draw $"+w+" 2; now $"+w+"; }", 0, api.OK)
	}
}

// texts returns texts that use all of the grammar.
func texts() []string {
	l := []string{
		"var x = -12;", "var x = 5;", "rec r { a = 1; b = -2; }", "rec r { }", "chan c 3;", "lock l;", "file f;", "test t { }",
		"proc p { $a = (x.y + 1) * 2; if $a < 3 { go q; } else { } x = 1 - kind; }",
		"proc p { x.y = $a <= (1 == 2); while x { call q; acquire l; release l; } }",
		"test t { send c 1 * 2; recv c $a; write f $a; read f $b; draw $c 6; now $d; sleep 9; alloc 99; check 1; }",
	}
	m := newMaker(2)
	for _, n := range m.valid(20) {
		if s := refPrint(n); len(s) < 200 {
			l = append(l, loose(n, m.Rand))
		}
	}
	return l
}

// bent returns texts that are one token or one byte away from a text.
func bent(s string) []string {
	tokens, offsets := refTokens(s)
	others := append([]string{"", "x", "abcdefghijklmnop", "abcdefghijklmnopq", "$a", "$abcdefghijklmnopq", "$", "0", "1", "2", "4", "7", "10", "100", "0000", "<=", "==", "(", ")", "{", "}", "=", "+", "-", "*", "<", ";", ".", "X", "\t", "\x80"}, reserved...)
	var l []string
	for i, t := range tokens {
		before, behind := s[:offsets[i]], s[offsets[i]+len(t):]
		for _, other := range others {
			l = append(l, before+" "+other+" "+behind, before+" "+other+" "+t+behind)
		}
	}
	for i := range len(s) {
		l = append(l, s[:i], s[:i]+s[i+1:], s[:i]+"\n"+s[i:], s[:i]+"?"+s[i:])
	}
	return append(l, s, s+" ", s+";", s+"\r", s+s)
}

// TestGrammar compares with a reader of the grammar that tries all ways.
func TestGrammar(t *testing.T) {
	g := newGrammar()
	count := map[api.Errno]int{}
	for _, s := range texts() {
		for _, x := range bent(s) {
			at, e := g.refError(x)
			count[e]++
			checkError(t, x, at, e)
			checkBeginning(t, x)
		}
	}
	if count[api.OK] < 500 || count[api.ErrForm] < 500 || count[api.ErrRange] < 100 {
		t.Error("too few texts of one kind:", count)
	}
}

// TestBytes tries all bytes at all places of short texts.
func TestBytes(t *testing.T) {
	g := newGrammar()
	for _, s := range []string{"chan c 1 ;", "rec r{a=-1;}", "proc p{$a=x.y;if a<=b{}}"} {
		for i := range len(s) + 1 {
			for c := range 256 {
				x := s[:i] + string([]byte{byte(c)}) + s[i:]
				at, e := g.refError(x)
				checkError(t, x, at, e)
				checkBeginning(t, x)
			}
		}
	}
}

// checkBeginning checks P6.7.
func checkBeginning(t *testing.T, s string) {
	t.Helper()
	_, k, e := source.Parse(s)
	if e != api.ErrForm && e != api.ErrRange {
		return
	}
	_, at, got := source.Parse(s[:k])
	if !(got == api.OK && at == 0 || got == api.ErrForm && at == k || got == api.ErrLimit && at == 0) {
		t.Errorf("P6.7: Parse of %q: %d, error %d; of the bytes before: %d, error %d", s, k, e, at, got)
	}
}

func TestBeginnings(t *testing.T) {
	deep := "proc p{check " + strings.Repeat("1+", 21) + "1;}"
	long := "proc p{" + strings.Repeat("go abc;", 127) + "}"
	for _, s := range []string{"lock l;;", "lock l; X", deep + ";", deep[:len(deep)-1], long + "1", "chan c 7;", "", "x"} {
		checkBeginning(t, s)
	}
	checkError(t, deep, 0, api.ErrLimit)
	checkError(t, deep+";", len(deep), api.ErrForm)
	checkError(t, long, 0, api.ErrLimit)
	checkError(t, long+" 1", len(long)+1, api.ErrForm)
}

func TestLongTexts(t *testing.T) {
	fill := func(s, with string, length int) string { return s + strings.Repeat(with, length-len(s)) }
	checkError(t, fill("lock l;", " ", 1024), 0, api.OK)
	checkError(t, fill("lock l;", "\n", 1024), 0, api.OK)
	checkError(t, fill("", " ", 1017)+"lock l;", 0, api.OK)
	checkError(t, fill("lock l;", " ", 1023)+"x", 1023, api.ErrForm)
	checkError(t, fill("lock l", " ", 1024), 1024, api.ErrForm)
	checkError(t, fill("chan c 4;", " ", 1024), 7, api.ErrRange)
	for _, s := range []string{"lock l;", "lock l", "", "chan c 4;", "X"} {
		checkError(t, fill(s, " ", 1025), 1024, api.ErrLimit)
	}
	checkError(t, strings.Repeat("\xff", 1025), 1024, api.ErrLimit)
	checkError(t, strings.Repeat("(", 1<<20), 1024, api.ErrLimit)
	checkError(t, strings.Repeat("0", 1024), 0, api.ErrForm)
	checkError(t, fill("proc p{check ", "(", 1024), 1024, api.ErrForm)
	checkError(t, "proc p{check "+strings.Repeat("(", 500)+"1"+strings.Repeat(")", 500)+";}", 0, api.OK)
	checkError(t, "proc p{check "+strings.Repeat("(", 500)+"1"+strings.Repeat(")", 501)+";}", 1014, api.ErrForm)
}

// TestPrintedLength: the text of a tree counts, not only the one that is read.
func TestPrintedLength(t *testing.T) {
	// "proc p { }" has 10 bytes, and each "go q; " 6.
	for _, c := range []struct {
		count, extra int
		e            api.Errno
	}{{168, 6, api.OK}, {168, 7, api.ErrLimit}, {169, 0, api.OK}, {169, 1, api.ErrLimit}, {170, 0, api.ErrLimit}} {
		n := proc(slices.Repeat([]api.Node{node(source.Go, "q")}, c.count)...)
		n.Text = "p" + strings.Repeat("x", c.extra)
		s := refPrint(n)
		if want := 10 + 6*c.count + c.extra; len(s) != want || want <= 1024 != (c.e == api.OK) {
			t.Fatalf("the text has %d bytes", len(s))
		}
		checkTree(t, n)
		short := strings.NewReplacer(" { ", "{", "; ", ";").Replace(s)
		checkError(t, short, 0, c.e)
		if len(s) <= 1024 {
			checkError(t, s, 0, api.OK)
		}
	}
	for length := 1015; length < 1035; length++ {
		all := proc()
		for len(refPrint(all)) < length-30 {
			all.Kids[0].Kids = append(all.Kids[0].Kids, node(source.Set, "", node(source.Name, "x"), node(source.Add, "", num(1), num(2))))
		}
		for rest := length - len(refPrint(all)); rest > 0; rest = length - len(refPrint(all)) {
			all.Kids[0].Kids = append(all.Kids[0].Kids, node(source.Go, strings.Repeat("z", min(max(rest-5, 1), 16))))
		}
		checkTree(t, all)
	}
}

// chains returns trees of a depth, one for each way in which trees become deep.
func chains(depth int) []api.Node {
	leaf := num(1)
	grow := func(n api.Node, least int, wrap func(api.Node) api.Node, close func(api.Node) api.Node) api.Node {
		for refDepth(n) < depth-least {
			n = wrap(n)
		}
		return close(n)
	}
	blocks := func(n api.Node) api.Node { return node(source.Test, "t", n) }
	l := []api.Node{
		grow(leaf, 3, func(n api.Node) api.Node { return node(source.Add, "", n, leaf) }, checked),
		grow(leaf, 3, func(n api.Node) api.Node { return node(source.Sub, "", leaf, n) }, checked),
		grow(leaf, 3, func(n api.Node) api.Node { return node(source.Mul, "", n, leaf) }, checked),
		grow(leaf, 3, func(n api.Node) api.Node { return node(source.Less, "", leaf, n) }, checked),
		grow(leaf, 3, func(n api.Node) api.Node { return node(source.Equal, "", n, leaf) }, checked),
	}
	for _, kind := range []int{source.If, source.While} {
		within := func(n api.Node) api.Node { return block(node(kind, "", leaf, n)) }
		l = append(l, grow(block(), 1+depth%2, within, blocks))
	}
	elses := func(n api.Node) api.Node { return block(node(source.If, "", leaf, block(), n)) }
	return append(l, grow(block(), 1+depth%2, elses, blocks))
}

func TestDepth(t *testing.T) {
	for depth := 22; depth <= 28; depth++ {
		for i, n := range chains(depth) {
			s, e := refPrint(n), api.OK
			if refDepth(n) > 24 {
				e = api.ErrLimit
			}
			if i < 5 && refDepth(n) != depth {
				t.Fatalf("tree %d has the depth %d", i, refDepth(n))
			}
			checkError(t, s, 0, e)
			checkTree(t, n)
		}
	}
}

// variants returns the trees that are made from a tree by a change of one node.
func variants(n api.Node, change func(api.Node) []api.Node) []api.Node {
	l := change(n)
	for i := range n.Kids {
		for _, k := range variants(n.Kids[i], change) {
			other := n
			other.Kids = slices.Clone(n.Kids)
			other.Kids[i] = k
			l = append(l, other)
		}
	}
	return l
}

// changes returns other nodes in the place of one, each with one other field.
func changes(n api.Node) []api.Node {
	var l []api.Node
	for kind := -2; kind <= source.Kinds+1; kind++ {
		l = append(l, api.Node{Kind: kind, Text: n.Text, N: n.N, Kids: n.Kids})
	}
	for _, kind := range []int{math.MinInt, math.MaxInt, 1 << 32, 256, n.Kind + 1<<32} {
		l = append(l, api.Node{Kind: kind, Text: n.Text, N: n.N, Kids: n.Kids})
	}
	for _, text := range []string{"", "a", "x9", "if", "else", "kind", "read", "rec", "A", "a.b", "a.b.c", "a.", ".a", ".", "a.if", "kind.a", "a .b", "a. b", "a b", "a ", " a", "\na", "$a", "1", "01", "1a", "(a)", "a;", "a=1", "a = 1; b", "1 + 2", "a { } proc", "abcdefghijklmnop", "abcdefghijklmnopq", "abcdefghijklmnop.abcdefghijklmnop", "abcdefghijklmnopq.a", "a.abcdefghijklmnopq", "\xc3\xa4", "a\x00", "-1", strings.Repeat("a", 2000)} {
		l = append(l, api.Node{Kind: n.Kind, Text: text, N: n.N, Kids: n.Kids})
	}
	for _, number := range []int{math.MinInt, -1000, -999, -1, 0, 1, 2, 3, 4, 5, 6, 7, 9, 10, 99, 100, 999, 1000, 1 << 32, math.MaxInt} {
		l = append(l, api.Node{Kind: n.Kind, Text: n.Text, N: number, Kids: n.Kids})
	}
	return append(l, kidChanges(n)...)
}

// kidChanges returns the node with other kids.
func kidChanges(n api.Node) []api.Node {
	lists := [][]api.Node{nil, {}}
	for i := range n.Kids {
		lists = append(lists, slices.Concat(n.Kids[:i], n.Kids[i+1:]), slices.Concat(n.Kids[:i+1], n.Kids[i:]))
		if i > 0 {
			lists = append(lists, slices.Concat(n.Kids[:i-1], []api.Node{n.Kids[i], n.Kids[i-1]}, n.Kids[i+1:]))
		}
	}
	for _, other := range []api.Node{num(1), block(), node(source.Local, "a"), node(source.Name, "a"), node(source.Field, "a.b"), node(source.Kind, ""), counted(source.Item, "a", 1), node(source.Go, "q"), node(source.Lock, "l"), {}} {
		lists = append(lists, slices.Concat(n.Kids, []api.Node{other}), slices.Concat([]api.Node{other}, n.Kids))
	}
	var l []api.Node
	for _, kids := range lists {
		l = append(l, api.Node{Kind: n.Kind, Text: n.Text, N: n.N, Kids: kids})
	}
	return l
}

// TestValid compares with the rules of each kind, for valid trees and all that are one change away.
func TestValid(t *testing.T) {
	trees := []api.Node{{}}
	for _, s := range texts() {
		trees = append(trees, parse(t, s))
	}
	good := 0
	for _, n := range trees {
		checkTree(t, n)
		for _, other := range variants(n, changes) {
			if refValid(other) {
				good++
			}
			checkTree(t, other)
		}
	}
	if good < 1000 {
		t.Error("too few valid trees:", good)
	}
}

// TestFragments: what is in a valid tree is none itself, but for the whole.
func TestFragments(t *testing.T) {
	var visit func(n api.Node)
	visit = func(n api.Node) {
		for _, k := range n.Kids {
			if source.Valid(k) {
				t.Errorf("P6.1: a node of kind %d alone is valid", k.Kind)
			}
			checkTree(t, k)
			visit(k)
		}
	}
	for _, n := range newMaker(3).valid(50) {
		visit(n)
	}
}

// TestAnyTrees: trees of any depth and width, also such as have nodes in common.
func TestAnyTrees(t *testing.T) {
	deep, wide := num(1), proc(slices.Repeat([]api.Node{node(source.Go, "q")}, 1<<17)...)
	for range 1<<15 - 1 {
		deep = block(node(source.If, "", deep))
	}
	shared := num(1)
	for range 60 {
		shared = node(source.Add, "", shared, shared)
	}
	blocks, bare := block(), node(source.Kinds, "")
	for range 60 {
		blocks, bare = block(blocks, blocks), node(source.Kinds, "", bare, bare)
	}
	within := node(source.Name, "")
	for range 20 {
		within = node(source.Less, "", within, within)
	}
	endless := make([]api.Node, 1)
	endless[0] = node(source.While, "", num(1), block(endless...))
	endless[0].Kids[1].Kids = endless
	round := make([]api.Node, 2)
	round[0], round[1] = node(source.Add, "", round...), num(1)
	round[0].Kids = round
	full := node(source.Lock, "l")
	full.Kids = wide.Kids[0].Kids
	for i, n := range []api.Node{deep, wide, checked(deep), shared, checked(shared), blocks, proc(blocks), bare, proc(bare), checked(within), proc(endless...), checked(round[0]), full, node(source.Lock, strings.Repeat("l", 1<<20)), {Kind: source.Rec, Text: "r", Kids: slices.Repeat([]api.Node{{Kind: source.Item}}, 1<<17)}} {
		k, name := source.Head(n)
		if source.Valid(n) || source.Print(n) != "" || k != -1 || name != "" {
			t.Errorf("P6.1: tree %d is valid", i)
		}
	}
	if size := source.Size(deep); size != 1<<16-1 {
		t.Errorf("P6.4: Size of a deep tree: %d", size)
	}
	if size := source.Size(wide); size != 1<<17+2 {
		t.Errorf("P6.4: Size of a wide tree: %d", size)
	}
	if !source.Same(deep, clone(deep)) || !source.Same(wide, clone(wide)) || source.Same(deep, wide) {
		t.Error("P6.4: Same of large trees")
	}
}

func TestHead(t *testing.T) {
	for kind, s := range []string{"var a = 1;", "rec b { a = 1; }", "chan c 1;", "lock d;", "file e;", "proc f { go q; }", "test g { }"} {
		k, name := source.Head(parse(t, s))
		if k != kind || name != string("abcdefg"[kind]) {
			t.Errorf("P6.4: Head of %q: %d, %q", s, k, name)
		}
	}
	for _, n := range []api.Node{{}, num(1), block(), node(source.Name, "a"), counted(source.Item, "a", 1), counted(source.Var, "a", 1000), node(source.Lock, "read"), node(-1, "a"), node(source.Kinds, "a")} {
		if k, name := source.Head(n); k != -1 || name != "" {
			t.Errorf("P6.4: Head of a tree that is not valid: %d, %q", k, name)
		}
	}
}

func TestSame(t *testing.T) {
	trees := append(newMaker(4).valid(8), api.Node{}, node(-1, "\xff", num(math.MinInt)), block(block(), block()))
	for _, n := range trees {
		if !source.Same(n, n) || !source.Same(n, clone(n)) || !source.Same(clone(n), n) {
			t.Error("P6.4: a tree is not the same as itself")
		}
		for _, other := range variants(n, changes) {
			if want := equal(n, other); source.Same(n, other) != want || source.Same(other, n) != want {
				t.Errorf("P6.4: Same of two trees of kinds %d and %d is not %t", n.Kind, other.Kind, want)
			}
		}
	}
	if !source.Same(api.Node{Kids: nil}, api.Node{Kids: []api.Node{}}) || !source.Same(node(9, "a"), api.Node{Kind: 9, Text: "a", Kids: []api.Node{}}) {
		t.Error("P6.4: nil and empty kids are not the same")
	}
}

func TestSize(t *testing.T) {
	for _, c := range []struct {
		n    api.Node
		size int
	}{
		{api.Node{}, 1},
		{node(-5, "", api.Node{}, api.Node{}), 3},
		{proc(), 2},
		{node(source.Rec, "r", counted(source.Item, "a", 1), counted(source.Item, "b", 1)), 3},
		{checked(node(source.Add, "", num(1), node(source.Mul, "", num(2), num(3)))), 8},
		{block(block(block()), block(), num(1)), 5},
	} {
		if size := source.Size(c.n); size != c.size {
			t.Errorf("P6.4: Size: %d; want %d", size, c.size)
		}
	}
}

func TestWords(t *testing.T) {
	l := source.Words()
	if !slices.Equal(l, reserved) {
		t.Errorf("P6.4: Words: %q", l)
	}
	for i := range l {
		l[i] = "x"
	}
	if !slices.Equal(source.Words(), reserved) {
		t.Error("P6.4: Words are changed by a caller")
	}
	checkError(t, "var x = 1;", 0, api.OK)
	checkError(t, "var var = 1;", 4, api.ErrForm)
}

// TestAgain checks P6.5 for trees, and P6.6 for other texts of them.
func TestAgain(t *testing.T) {
	m := newMaker(5)
	for _, n := range m.valid(300) {
		checkTree(t, n)
		for range 4 {
			s := loose(n, m.Rand)
			if len(s) > 1024 {
				continue
			}
			got, at, e := source.Parse(s)
			if at != 0 || e != api.OK || !equal(got, n) {
				t.Errorf("P6.6: Parse of %q: %d, error %d, or another tree", s, at, e)
			}
			if p := source.Print(got); p != refPrint(n) {
				t.Errorf("P6.5: Print of %q: %q", s, p)
			}
		}
	}
}

// TestBlanks puts blanks between all tokens of a text, one place after the other.
func TestBlanks(t *testing.T) {
	for _, s := range texts() {
		want := parse(t, s)
		tokens, offsets := refTokens(s)
		for i, at := range offsets {
			for _, x := range []string{" ", "\n", " \n\n "} {
				if other := s[:at] + x + s[at:]; !equal(parse(t, other), want) {
					t.Errorf("P6.6: with %q ahead of token %d, %q is another tree", x, i, s)
				}
			}
		}
		if other := strings.ReplaceAll(strings.Join(tokens, "\n"), "$\n", "$"); !equal(parse(t, other), want) {
			t.Errorf("P6.6: %q is another tree than %q", other, s)
		}
	}
	checkError(t, "l ock l;", 0, api.ErrForm)
	checkError(t, "proc p { x < = 1; }", 11, api.ErrForm)
	checkError(t, "proc p { check 1 = = 2; }", 17, api.ErrForm)
}

// TestBlocks checks P6.8.
func TestBlocks(t *testing.T) {
	m := newMaker(6)
	for range 200 {
		a, b := proc(m.block(2).Kids...), proc(m.block(2).Kids...)
		both := proc(slices.Concat(a.Kids[0].Kids, b.Kids[0].Kids)...)
		if !source.Valid(a) || !source.Valid(b) || len(refPrint(both)) > 1024 {
			continue
		}
		s := refPrint(both)
		as, bs := refPrint(a), refPrint(b)
		if joined := strings.TrimSuffix(as, "}") + strings.TrimPrefix(bs, "proc p { "); !source.Valid(both) || source.Print(both) != s || s != joined {
			t.Errorf("P6.8: of %q and %q: %q", as, bs, source.Print(both))
		}
		p, q := parse(t, s), parse(t, "test"+strings.TrimPrefix(s, "proc"))
		if q.Kind != source.Test || q.Text != p.Text || !equal(p.Kids[0], q.Kids[0]) {
			t.Errorf("P6.8: %q is another block in a test", s)
		}
	}
}

// sealed returns the tree with a further node behind the kids of each node, in the same memory.
func sealed(n api.Node) api.Node {
	kids := make([]api.Node, 0, len(n.Kids)+1)
	for _, k := range n.Kids {
		kids = append(kids, sealed(k))
	}
	kids = append(kids, node(77, "seal"))
	n.Kids = kids[:len(n.Kids)]
	return n
}

// isSealed reports whether these nodes are still there.
func isSealed(n api.Node) bool {
	seal := n.Kids[:len(n.Kids)+1][len(n.Kids)]
	return equal(seal, node(77, "seal")) && !slices.ContainsFunc(n.Kids, func(k api.Node) bool { return !isSealed(k) })
}

// TestMemory: arguments are not changed, and results share no memory.
func TestMemory(t *testing.T) {
	r := rand.New(rand.NewPCG(6, 7))
	for _, s := range texts() {
		first, second := parse(t, s), parse(t, s)
		want := clone(second)
		n := sealed(want)
		source.Valid(n)
		source.Print(n)
		source.Head(n)
		source.Same(n, n)
		source.Size(n)
		if !equal(n, want) || !isSealed(n) {
			t.Errorf("the tree of %q is changed by a function that takes it", s)
		}
		var spoil func(n *api.Node)
		spoil = func(n *api.Node) {
			for i := range n.Kids {
				spoil(&n.Kids[i])
			}
			n.Kind, n.Text, n.N = r.Int(), "spoilt", r.Int()
			n.Kids = append(n.Kids[:0], *n)
		}
		spoil(&first)
		if !equal(second, want) || !equal(parse(t, s), want) {
			t.Errorf("two trees of %q have memory in common", s)
		}
	}
}

// TestKidsApart: what is added to the kids of one node is not in the memory of another one.
func TestKidsApart(t *testing.T) {
	for _, s := range texts() {
		n := parse(t, s)
		want := clone(n)
		var grow func(n api.Node)
		grow = func(n api.Node) {
			for _, k := range n.Kids {
				grow(k)
			}
			_ = append(n.Kids, node(78, "more"))
		}
		grow(n)
		if !equal(n, want) {
			t.Errorf("in the tree of %q, kids of two nodes have memory in common", s)
		}
	}
}
