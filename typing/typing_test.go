package typing_test

import (
	"encoding/hex"
	"math/rand/v2"
	"slices"
	"strconv"
	"strings"
	"testing"

	"culprit/api"
	"culprit/hash"
	"culprit/typing"
)

// defs returns definitions of texts, whose second tokens are the names.
func defs(texts ...string) []api.Def {
	var l []api.Def
	for _, s := range texts {
		l = append(l, api.Def{Name: refTokens(s)[1], Text: s})
	}
	return l
}

// example returns the program of the chapter's examples.
func example() []api.Def {
	return defs("var a = 0;", "rec g { n = 1; }", "proc p { a = g.n; }", "proc q { call p; go q; }", "test t { call p; check a == 1; }")
}

// with returns definitions with one replaced, or with others behind them.
func with(l []api.Def, texts ...string) []api.Def {
	l = slices.Clone(l)
	for _, d := range defs(texts...) {
		if at := indexOf(l, d.Name); at >= 0 {
			l[at] = d
		} else {
			l = append(l, d)
		}
	}
	return l
}

func without(l []api.Def, name string) []api.Def {
	return slices.DeleteFunc(slices.Clone(l), func(d api.Def) bool { return d.Name == name })
}

func namesOf(l []api.Def) string {
	var names []string
	for _, d := range l {
		names = append(names, d.Name)
	}
	return strings.Join(names, " ")
}

// textsOf returns definitions in a form that tells which ones differ.
func textsOf(l []api.Def) string {
	var b strings.Builder
	for _, d := range l {
		b.WriteString("\t" + d.Name + ": " + d.Text + "\n")
	}
	return b.String()
}

func checkCheck(t *testing.T, what string, l []api.Def, at int, e api.Errno) {
	t.Helper()
	if gotAt, got := typing.Check(l); gotAt != at || got != e {
		t.Errorf("P7.1: Check of %s: %d, error %d; want %d, error %d", what, gotAt, got, at, e)
	}
	slice, got := typing.Slice(l, "no such name")
	want := e
	if e == api.OK {
		want = api.ErrNone
	}
	if got != want || len(slice) > 0 {
		t.Errorf("P7.4: Slice of %s, of a name that is not there: %q, error %d; want error %d", what, namesOf(slice), got, want)
	}
	if tests := typing.Tests(l); e != api.OK && len(tests) > 0 {
		t.Errorf("P7.2: Tests of %s: %q", what, tests)
	}
}

func checkUses(t *testing.T, l []api.Def, name string, e api.Errno, want ...string) {
	t.Helper()
	if got, gotE := typing.Uses(l, name); gotE != e || !slices.Equal(got, want) {
		t.Errorf("P7.3: Uses of %q in\n%s: %q, error %d; want %q, error %d", name, textsOf(l), got, gotE, want, e)
	}
}

// checkSlice checks the names of a slice, and that its definitions are those of the list.
func checkSlice(t *testing.T, l []api.Def, name, want string) {
	t.Helper()
	got, e := typing.Slice(l, name)
	if e != api.OK || namesOf(got) != want {
		t.Errorf("P7.4: Slice of %q: %q, error %d; want %q", name, namesOf(got), e, want)
	}
	for _, d := range got {
		if !slices.Contains(l, d) {
			t.Errorf("P7.4: Slice of %q: %q is not in the list", name, d)
		}
	}
}

func TestExamples(t *testing.T) {
	checkCheck(t, "the example", example(), 5, api.OK)
	if got := typing.Tests(example()); !slices.Equal(got, []string{"t"}) {
		t.Errorf("P7.2: Tests: %q", got)
	}
	checkUses(t, example(), "p", api.OK, "a", "g")
	checkUses(t, example(), "t", api.OK, "a", "p")
	checkSlice(t, example(), "t", "a g p t")
	checkCheck(t, "g.m", with(example(), "proc p { a = g.m; }"), 2, api.ErrNone)
	checkCheck(t, "a = t", with(example(), "proc p { a = t; }"), 2, api.ErrType)
	checkCheck(t, "call q", with(example(), "proc p { call q; }"), 2, api.ErrCycle)
	checkCheck(t, "no g", without(example(), "g"), 1, api.ErrNone)
	if !typing.Same(defs("var a=0 ;"), defs("var a = 0;")) {
		t.Error("P7.5: Same of other blanks")
	}
}

func TestCheckLimit(t *testing.T) {
	var l []api.Def
	for i := range 24 {
		l = append(l, defs("lock l"+strconv.Itoa(i)+";")...)
		checkCheck(t, "locks", l, i+1, api.OK)
	}
	checkCheck(t, "nil", nil, 0, api.OK)
	checkCheck(t, "an empty list", []api.Def{}, 0, api.OK)
	checkCheck(t, "25 locks", with(l, "lock m;"), 0, api.ErrLimit)
	checkCheck(t, "24 locks and one again", append(slices.Clone(l), l[3]), 0, api.ErrLimit)
	checkCheck(t, "24 empty definitions", make([]api.Def, 24), 0, api.ErrForm)
	checkCheck(t, "25 empty definitions", make([]api.Def, 25), 0, api.ErrLimit)
	checkCheck(t, "many definitions", make([]api.Def, 100000), 0, api.ErrLimit)
}

// TestCheckOwn: errors of a definition without regard to what it uses.
func TestCheckOwn(t *testing.T) {
	deep := "proc d { check " + strings.Repeat("(1+", 22) + "1" + strings.Repeat(")", 22) + "; }"
	twice := "rec r { a = 1; b = 2; a = 1; }"
	for _, c := range []struct {
		d api.Def
		e api.Errno
	}{
		{api.Def{}, api.ErrForm},
		{api.Def{Name: "m"}, api.ErrForm},
		{api.Def{Name: "m", Text: "lock m"}, api.ErrForm},
		{api.Def{Name: "m", Text: "lock m; "}, api.OK},
		{api.Def{Name: "m", Text: "lock m; lock m;"}, api.ErrForm},
		{api.Def{Name: "m", Text: "lock m\x00;"}, api.ErrForm},
		{api.Def{Name: "c", Text: "chan c 4;"}, api.ErrRange},
		{api.Def{Name: "c", Text: "chan c 3;"}, api.OK},
		{api.Def{Name: "m", Text: "lock m;" + strings.Repeat(" ", 1017)}, api.OK},
		{api.Def{Name: "m", Text: "lock m;" + strings.Repeat(" ", 1018)}, api.ErrLimit},
		{api.Def{Name: "d", Text: deep}, api.ErrLimit},
		{api.Def{Name: "d", Text: strings.Replace(deep, "(1+(1+", "(1+1+(", 1)}, api.ErrLimit},
		{api.Def{Name: "n", Text: "lock m;"}, api.ErrName},
		{api.Def{Name: "", Text: "lock m;"}, api.ErrName},
		{api.Def{Name: " m", Text: "lock m;"}, api.ErrName},
		{api.Def{Name: "M", Text: "lock m;"}, api.ErrName},
		{api.Def{Name: "a", Text: "rec r { a = 1; }"}, api.ErrName},
		{api.Def{Name: "r", Text: twice}, api.ErrTwice},
		{api.Def{Name: "r", Text: "rec r { a = 1; a = 2; }"}, api.ErrTwice},
		{api.Def{Name: "r", Text: "rec r { a = 1; aa = 1; r = 1; z = 1; }"}, api.OK},
		{api.Def{Name: "r", Text: "rec r { }"}, api.OK},
		{api.Def{Name: "z", Text: "lock z;"}, api.ErrTwice},
		{api.Def{Name: "z", Text: "var z = 1;"}, api.ErrTwice},
		// Several errors of one definition.
		{api.Def{Name: "z", Text: "lock y"}, api.ErrForm},
		{api.Def{Name: "z", Text: "chan y 4;"}, api.ErrRange},
		{api.Def{Name: "z", Text: "lock y;"}, api.ErrName},
		{api.Def{Name: "z", Text: twice}, api.ErrName},
		{api.Def{Name: "z", Text: "rec z { a = 1; a = 2; }"}, api.ErrTwice},
		{api.Def{Name: "p", Text: "proc y { call no; }"}, api.ErrName},
	} {
		l := append(defs("lock z;"), c.d)
		at := 1
		if c.e == api.OK {
			at = 2
		}
		checkCheck(t, strconv.Quote(c.d.Name)+", "+strconv.Quote(c.d.Text), l, at, c.e)
	}
}

// TestCheckFields: a record with a field twice is one error, whichever two of its fields these are.
func TestCheckFields(t *testing.T) {
	for i := range 6 {
		for j := range 6 {
			fields := []string{"a", "b", "c", "d", "e", "f"}
			fields[i] = fields[j]
			text := "rec r { " + strings.Join(fields, " = 1; ") + " = 1; }"
			if i == j {
				checkCheck(t, text, defs(text), 1, api.OK)
			} else {
				checkCheck(t, text, defs(text), 0, api.ErrTwice)
			}
		}
	}
	checkCheck(t, "statements of the same kind", defs("var x = 1;", "proc p { x = 1; x = 1; { }"), 1, api.ErrForm)
	checkCheck(t, "equal statements", defs("var x = 1;", "proc p { x = 1; x = 1; if x { x = 1; } else { x = 1; } }"), 2, api.OK)
	checkCheck(t, "equal fields of two records", defs("rec r { a = 1; }", "rec s { a = 1; r = 2; }"), 2, api.OK)
}

// TestCheckOrder: errors of one stage come first at any index, and those of one stage at the first index.
func TestCheckOrder(t *testing.T) {
	form, range1, name, twice := api.Def{Name: "w", Text: "lock w"}, api.Def{Name: "w", Text: "chan w 4;"}, api.Def{Name: "w", Text: "lock v;"}, api.Def{Name: "l", Text: "lock l;"}
	own := []struct {
		d api.Def
		e api.Errno
	}{{form, api.ErrForm}, {range1, api.ErrRange}, {name, api.ErrName}, {twice, api.ErrTwice}}
	none, misfit, cycle := "proc n { call no; }", "proc m { acquire x; }", "proc c { call c; }"
	base := defs("lock l;", "var x = 1;")
	for _, a := range own {
		for _, b := range own {
			l := append(slices.Clone(base), a.d, b.d)
			checkCheck(t, "two errors of texts and names:\n"+textsOf(l), l, 2, a.e)
		}
		for _, later := range []string{none, misfit, cycle} {
			l := append(slices.Concat(base, defs(later)), a.d)
			checkCheck(t, "an error of a use, and one of a text or name:\n"+textsOf(l), l, 3, a.e)
			l = append(append(slices.Clone(base), a.d), defs(later)...)
			checkCheck(t, "an error of a text or name, and one of a use:\n"+textsOf(l), l, 2, a.e)
		}
	}
	for _, c := range []struct {
		first, second string
		at            int
		e             api.Errno
	}{
		{none, misfit, 2, api.ErrNone}, {misfit, none, 2, api.ErrType}, {cycle, none, 3, api.ErrNone}, {cycle, misfit, 3, api.ErrType}, {none, cycle, 2, api.ErrNone}, {misfit, cycle, 2, api.ErrType},
		{cycle, "proc d { call d; }", 2, api.ErrCycle}, {"proc d { call c; }", cycle, 3, api.ErrCycle},
	} {
		l := slices.Concat(base, defs(c.first, c.second))
		checkCheck(t, "two errors of uses:\n"+textsOf(l), l, c.at, c.e)
	}
}

// kinds has a definition of each kind.
var kinds = []string{"var dvar = 1;", "rec drec { f = 1; dvar = 2; }", "proc dproc { }", "lock dlock;", "chan dchan 1;", "file dfile;", "test dtest { }"}

// usages has each way to use a name, which is written as @, and the word of the definition that fits.
var usages = []struct{ text, fits string }{
	{"@ = 1;", "var"}, {"$a = @;", "var"}, {"check @;", "var"}, {"if @ { }", "var"}, {"while @ { }", "var"}, {"send dchan @;", "var"}, {"write dfile @;", "var"}, {"dvar = @;", "var"}, {"drec.f = @;", "var"},
	{"check @ + 1;", "var"}, {"check 1 - @;", "var"}, {"check 1 * @ * 2;", "var"}, {"check (1 < @) == kind;", "var"}, {"check $a <= (((@ + 1)));", "var"}, {"check dvar + drec.f + @;", "var"},
	{"@.f = 1;", "rec"}, {"@ . f = 1;", "rec"}, {"$a = @.f;", "rec"}, {"check @.f == 1;", "rec"}, {"check 1 == @.f;", "rec"}, {"dvar = 2 * (@.f - 1);", "rec"}, {"send dchan @.dvar;", "rec"}, {"check dvar + drec.f + @.f;", "rec"},
	{"go @;", "proc"}, {"call @;", "proc"},
	{"acquire @;", "lock"}, {"release @;", "lock"},
	{"send @ 1;", "chan"}, {"recv @ $a;", "chan"},
	{"write @ 1;", "file"}, {"read @ $a;", "file"},
}

// around has places of a statement.
var around = []string{"proc w { @ }", "test w { @ }", "proc w { check 1; alloc 1; @ sleep 1; }", "proc w { if kind { @ } }", "proc w { if 1 { } else { @ } }", "proc w { while 1 { if 2 { } else { while 3 { @ } } } }", "test w { go dproc; call dproc; @ acquire dlock; }"}

// TestCheckUses takes each way to use a name, at each place, for each kind of definition.
func TestCheckUses(t *testing.T) {
	l := defs(kinds...)
	for _, u := range usages {
		for i, place := range around {
			text := strings.Replace(place, "@", u.text, 1)
			for _, d := range append(defs(kinds...), api.Def{Name: "none"}) {
				used := strings.ReplaceAll(text, "@", d.Name)
				all := append(slices.Clone(l), defs(used)...)
				switch {
				case d.Name == "none":
					checkCheck(t, used, all, 7, api.ErrNone)
				case d.Name == "d"+u.fits:
					checkCheck(t, used, all, 8, api.OK)
				default:
					checkCheck(t, used, all, 7, api.ErrType)
				}
				first := append(defs(used), l...)
				want, _ := refUsed(first, "w")
				checkUses(t, first, "w", api.OK, want...)
				if i == 0 && !slices.Contains(want, d.Name) {
					t.Errorf("the reference says that %q uses %q", used, want)
				}
			}
		}
	}
}

// TestCheckNoUses: names of fields, locals and kinds of texts are no uses of definitions.
func TestCheckNoUses(t *testing.T) {
	for _, text := range []string{"proc w { $x = $y; draw $z 2; now $z; check $go + kind; }", "test w { }", "var w = 1;", "rec w { x = 1; w = 2; }", "chan w 0;", "lock w;", "file w;", "proc w { sleep 1; alloc 1; }"} {
		checkCheck(t, text, defs(text), 1, api.OK)
		checkUses(t, defs(text), "w", api.OK)
		checkSlice(t, defs(text), "w", "w")
	}
	checkCheck(t, "x.y without y", defs("rec x { y = 1; }", "proc w { x.y = x.y; }"), 2, api.OK)
	checkCheck(t, "recv c $x without x", defs("chan c 1;", "proc w { recv c $x; }"), 2, api.OK)
	checkCheck(t, "its own name as a field", defs("rec x { w = 1; }", "proc w { x.w = 1; }"), 2, api.OK)
}

// TestCheckUseOrder: of several errors of one definition the first kind counts, not the first one in the text.
func TestCheckUseOrder(t *testing.T) {
	l := defs("var x = 1;", "rec g { a = 1; }", "test t { }")
	none, misfit, field := "call no;", "x.a = 1;", "g.b = 1;"
	for _, c := range []struct {
		e     api.Errno
		parts []string
	}{
		{api.OK, []string{"g.a = x;"}}, {api.ErrNone, []string{none}}, {api.ErrType, []string{misfit}}, {api.ErrNone, []string{field}},
		{api.ErrNone, []string{none, misfit}}, {api.ErrNone, []string{misfit, none}}, {api.ErrType, []string{misfit, field}}, {api.ErrType, []string{field, misfit}}, {api.ErrNone, []string{none, field}}, {api.ErrNone, []string{field, none}},
		{api.ErrNone, []string{field, misfit, none}}, {api.ErrNone, []string{misfit, field, "g.a = 1;", none}}, {api.ErrType, []string{field, "x = 1;", misfit, "g.a = 1;", field}},
		{api.ErrType, []string{"call t;"}}, {api.ErrType, []string{"go t;"}}, {api.ErrType, []string{"g = 1;"}}, {api.ErrType, []string{"x.a = 1;"}}, {api.ErrNone, []string{"g.g = 1;"}}, {api.ErrNone, []string{"g.x = 1;"}}, {api.ErrNone, []string{"a.g = 1;"}}, {api.ErrNone, []string{"no.no = 1;"}},
		{api.ErrType, []string{"call t;", "call w;"}}, {api.ErrCycle, []string{"call w;"}}, {api.ErrNone, []string{"call w;", field}},
	} {
		text := "proc w { " + strings.Join(c.parts, " ") + " }"
		at := 3
		if c.e == api.OK {
			at = 4
		}
		checkCheck(t, text, append(slices.Clone(l), defs(text)...), at, c.e)
	}
	checkCheck(t, "a record without fields", defs("rec g { }", "proc w { g.a = 1; }"), 1, api.ErrNone)
	checkCheck(t, "a field of another record", defs("rec g { a = 1; }", "rec h { b = 1; }", "proc w { g.b = 1; }"), 2, api.ErrNone)
	checkCheck(t, "each field of a record", defs("rec g { a = 1; b = 1; c = 1; }", "proc w { g.b = g.a; g.c = 1; }"), 2, api.OK)
}

func TestCheckCalls(t *testing.T) {
	for _, c := range []struct {
		at    int
		e     api.Errno
		texts []string
	}{
		{0, api.ErrCycle, []string{"proc a { call a; }"}},
		{1, api.OK, []string{"proc a { go a; }"}},
		{0, api.ErrCycle, []string{"proc a { go a; call a; }"}},
		{0, api.ErrCycle, []string{"proc a { call a; go a; }"}},
		{0, api.ErrCycle, []string{"proc a { call b; }", "proc b { call a; }"}},
		{2, api.OK, []string{"proc a { go b; }", "proc b { call a; }"}},
		{2, api.OK, []string{"proc a { call b; }", "proc b { go a; }"}},
		{2, api.OK, []string{"proc a { go b; }", "proc b { go a; }"}},
		// One that calls into a cycle is not on it.
		{1, api.ErrCycle, []string{"proc a { call b; }", "proc b { call b; }"}},
		{1, api.ErrCycle, []string{"test a { call b; }", "proc b { call c; }", "proc c { call d; }", "proc d { call b; }"}},
		{2, api.ErrCycle, []string{"test t { call a; }", "proc a { call b; call c; }", "proc b { call d; }", "proc c { }", "proc d { if 1 { } else { while 1 { call b; } } }"}},
		// The first in the list, not the first in the order of calls or of names.
		{1, api.ErrCycle, []string{"test t { call a; }", "proc c { call a; }", "proc b { call c; }", "proc a { call b; }"}},
		// Two ways to the same one are no cycle.
		{4, api.OK, []string{"proc a { call b; call c; call d; }", "proc b { call d; }", "proc c { call d; call d; }", "proc d { }"}},
		// The way to a cycle leads past one that was there before.
		{2, api.ErrCycle, []string{"proc a { call b; call c; }", "proc b { }", "proc c { call b; call d; }", "proc d { call b; call c; }"}},
		{0, api.ErrCycle, []string{"proc a { call b; call c; }", "proc b { call c; }", "proc c { call b; call a; }"}},
		{0, api.ErrCycle, []string{"proc a { if 1 { call a; } }"}},
		{0, api.ErrCycle, []string{"proc a { while 0 { if 0 { } else { call a; } } }"}},
	} {
		checkCheck(t, strings.Join(c.texts, " "), defs(c.texts...), c.at, c.e)
	}
}

// chain returns 24 procedures of which each one calls the next, and the last one does something else.
func chain(last string) []api.Def {
	var l []api.Def
	for i := range 23 {
		l = append(l, defs("proc p"+strconv.Itoa(i)+" { call p"+strconv.Itoa(i+1)+"; }")...)
	}
	return append(l, defs("proc p23 { "+last+" }")...)
}

func TestCheckChains(t *testing.T) {
	checkCheck(t, "a chain", chain(""), 24, api.OK)
	checkCheck(t, "a chain with a start", chain("go p0;"), 24, api.OK)
	for i := range 24 {
		checkCheck(t, "a chain with a way back", chain("call p"+strconv.Itoa(i)+";"), i, api.ErrCycle)
	}
	back := chain("call p7;")
	slices.Reverse(back)
	checkCheck(t, "a chain in the other order", back, 0, api.ErrCycle)
	if s, e := typing.Slice(chain(""), "p0"); e != api.OK || len(s) != 24 {
		t.Errorf("P7.4: Slice of a chain: %d, error %d", len(s), e)
	}
}

// TestCheckMany: as many calls as there is room for, with very many ways, but without a cycle.
func TestCheckMany(t *testing.T) {
	var l []api.Def
	for i := range 24 {
		text := "proc p" + strconv.Itoa(i) + " { "
		for j := 0; i > 0 && len(text) < 1010; j++ {
			text += "call p" + strconv.Itoa(j%i) + "; "
		}
		l = append(l, defs(text+"}")...)
	}
	checkCheck(t, "many calls", l, 24, api.OK)
	slices.Reverse(l)
	checkCheck(t, "many calls", l, 24, api.OK)
	l[23].Text = "proc p0 { call p23; }"
	checkCheck(t, "many cycles", l, 0, api.ErrCycle)
}

func TestTests(t *testing.T) {
	for _, c := range []struct {
		texts []string
		want  []string
	}{
		{nil, nil},
		{[]string{"var a = 1;", "proc p { }"}, nil},
		{[]string{"test t2 { }", "test t10 { }", "proc p { }", "test t { }", "test a { call p; }", "test t1 { }"}, []string{"a", "t", "t1", "t10", "t2"}},
		{[]string{"test t { }", "test u { }", "proc p { call no; }"}, nil},
		{[]string{"test t { }", "test t { }"}, nil},
		{[]string{"test t { }", "lock l"}, nil},
		{[]string{"test t { }", "proc p { call p; }"}, nil},
	} {
		if got := typing.Tests(defs(c.texts...)); !slices.Equal(got, c.want) {
			t.Errorf("P7.2: Tests of %q: %q; want %q", c.texts, got, c.want)
		}
	}
	if got := typing.Tests([]api.Def{{Name: "u", Text: "test t { }"}}); len(got) > 0 {
		t.Errorf("P7.2: Tests with a wrong name: %q", got)
	}
	var l []api.Def
	for i := range 25 {
		l = append(l, defs("test t"+strconv.Itoa(i)+" { }")...)
	}
	if got := typing.Tests(l); len(got) > 0 {
		t.Errorf("P7.2: Tests of 25 definitions: %q", got)
	}
	if got := typing.Tests(l[:24]); len(got) != 24 || !slices.IsSorted(got) {
		t.Errorf("P7.2: Tests of 24 definitions: %q", got)
	}
}

func TestUses(t *testing.T) {
	all := "proc p { zz = y + x.b; x.a = $q; go g; call c; call c; acquire l; release l; send s 1; recv r $v; write w zz; read d $v; if k { go p; } else { zz = 1; } while u == n.n { draw $e 2; } check x; }"
	l := defs(all)
	checkUses(t, l, "p", api.OK, "c", "d", "g", "k", "l", "n", "p", "r", "s", "u", "w", "x", "y", "zz")
	checkUses(t, l, "q", api.ErrNone)
	checkUses(t, nil, "", api.ErrNone)
	// The first one with the name counts, whatever its text says.
	odd := []api.Def{{Name: "a", Text: "proc z { call b; }"}, {Name: "z", Text: "lock"}, {Name: "a", Text: "proc a { call c; }"}, {Name: "", Text: "test t { check y10 + y9; }"}, {Name: "z", Text: "proc z { call b; }"}, {Name: "r", Text: "chan r 4;"}, {Name: "l", Text: strings.Repeat(" ", 1025)}, {Name: "t", Text: "rec t { a = 1; a = 1; }"}}
	checkUses(t, odd, "a", api.OK, "b")
	checkUses(t, odd, "z", api.ErrForm)
	checkUses(t, odd, "", api.OK, "y10", "y9")
	checkUses(t, odd, "r", api.ErrRange)
	checkUses(t, odd, "l", api.ErrLimit)
	checkUses(t, odd, "t", api.OK)
	checkUses(t, odd, "proc", api.ErrNone)
	many := append(make([]api.Def, 100000), l...)
	if got, e := typing.Uses(many, "p"); e != api.OK || len(got) != 14 {
		t.Errorf("P7.3: Uses of a long list: %q, error %d", got, e)
	}
}

func TestSlice(t *testing.T) {
	l := defs("test u { check h.a; }", "rec h { a = 1; }", "var a = 1;", "rec g { h = 1; a = 2; }", "proc p { go q; $h = 1; }", "proc q { if 1 { go p; } send c g.a; }", "chan c 1;", "test t { while 1 { call p; } }", "lock b;", "file f;", "proc z { acquire b; write f 1; }")
	for name, want := range map[string]string{"u": "h u", "h": "h", "a": "a", "g": "g", "p": "c g p q", "q": "c g p q", "c": "c", "t": "c g p q t", "b": "b", "f": "f", "z": "b f z"} {
		checkSlice(t, l, name, want)
	}
	spaced := with(l, "proc  p\n{ go q;$h=((1)) ; }")
	if s, e := typing.Slice(spaced, "t"); e != api.OK || s[2].Text != "proc  p\n{ go q;$h=((1)) ; }" {
		t.Errorf("P7.4: Slice: %q, error %d; want the text of the list", s, e)
	}
	for _, c := range []struct {
		l    []api.Def
		name string
		e    api.Errno
	}{
		{nil, "", api.ErrNone}, {l, "", api.ErrNone}, {l, "y", api.ErrNone}, {l, "tt", api.ErrNone},
		{make([]api.Def, 25), "y", api.ErrLimit}, {without(l, "b"), "b", api.ErrNone}, {without(l, "b"), "t", api.ErrNone},
		{with(l, "proc p { call t; }"), "t", api.ErrType}, {with(l, "proc p { call p; }"), "y", api.ErrCycle}, {with(l, "lock b"), "y", api.ErrForm}, {append(slices.Clone(l), l[0]), "u", api.ErrTwice}, {with(l, "chan c 9;"), "a", api.ErrRange},
	} {
		if s, e := typing.Slice(c.l, c.name); e != c.e || len(s) > 0 {
			t.Errorf("P7.4: Slice of %q in\n%s: %q, error %d; want error %d", c.name, textsOf(c.l), namesOf(s), e, c.e)
		}
	}
}

// TestSort: those with the same name stay in their order, also in long lists.
func TestSort(t *testing.T) {
	r := newRand(1)
	names := []string{"", "a", "a\x00", "aa", "b", "B", "b10", "b9", "é", "\xff", "~", " a"}
	for size := range 200 {
		var l []api.Def
		for i := range size {
			l = append(l, api.Def{Name: names[r.IntN(len(names))], Text: strconv.Itoa(i)})
		}
		before := slices.Clone(l)
		if got := typing.Sort(l); !slices.Equal(got, refSort(l)) {
			t.Errorf("P7.2: Sort of\n%s:\n%s", textsOf(l), textsOf(got))
		}
		if !slices.Equal(l, before) {
			t.Error("Sort changed its argument")
		}
	}
	if got := typing.Sort(nil); len(got) > 0 {
		t.Errorf("P7.2: Sort of nil: %q", got)
	}
}

// TestDigest compares with digests that were calculated elsewhere by the document's text.
func TestDigest(t *testing.T) {
	for _, c := range []struct {
		l    []api.Def
		want string
	}{
		{nil, "beead77994cf573341ec17b58bbf7eb3"},
		{[]api.Def{{Name: "x", Text: "var  x=-01;"}, {Name: "m", Text: "lock m ;"}}, "31370934d3e3e9be744712e7ebd7e362"},
		{example(), "9af346a725da697c77632860f4e56dc7"},
		{[]api.Def{{Name: "b", Text: "what?"}, {Name: "a", Text: ""}, {Name: "b", Text: "chan b 2 ;"}}, "a9c2a3c8f9af3b5d0f0fa9d5bd51f197"},
	} {
		got := typing.Digest(c.l)
		if hex.EncodeToString(got[:]) != c.want {
			t.Errorf("P7.5: Digest of\n%s: %x; want %s", textsOf(c.l), got, c.want)
		}
	}
}

// TestMeaning takes lists of which none is the same as another one, with two forms of each.
func TestMeaning(t *testing.T) {
	long := "lock m;" + strings.Repeat(" ", 1018)
	forms := []struct {
		a, b  []api.Def
		parts []string
	}{
		{nil, []api.Def{}, nil},
		{defs("var x = 1;", "lock m;"), []api.Def{{Name: "m", Text: "lock\nm ;"}, {Name: "x", Text: " var x=001;"}}, []string{"m", "lock m;", "x", "var x = 1;"}},
		{defs("var x = 1;"), defs("var x = 01 ;"), []string{"x", "var x = 1;"}},
		{defs("lock m;"), defs("lock m; "), []string{"m", "lock m;"}},
		{defs("lock m;", "lock m;"), defs("lock m ;", "lock m;"), []string{"m", "lock m;", "m", "lock m;"}},
		{defs("var x = 2;", "lock m;"), defs("lock m;", "var x=2;"), []string{"m", "lock m;", "x", "var x = 2;"}},
		{defs("var x = 1;", "file m;"), defs("file m;", "var x=1;"), []string{"m", "file m;", "x", "var x = 1;"}},
		// Names count by themselves, also if the text has another one.
		{[]api.Def{{Name: "n", Text: "lock m;"}}, []api.Def{{Name: "n", Text: "lock m ;"}}, []string{"n", "lock m;"}},
		{[]api.Def{{Name: "", Text: "lock m;"}}, []api.Def{{Text: "lock\nm;"}}, []string{"", "lock m;"}},
		{[]api.Def{{Name: "m", Text: ""}}, []api.Def{{Name: "m"}}, []string{"m", ""}},
		{[]api.Def{{Name: "", Text: "m"}}, []api.Def{{Text: "m"}}, []string{"", "m"}},
		// Texts that cannot be read count as they are.
		{defs("lock m"), defs("lock m"), []string{"m", "lock m"}},
		{defs("lock m "), defs("lock m "), []string{"m", "lock m "}},
		{defs("chan m 4;"), defs("chan m 4;"), []string{"m", "chan m 4;"}},
		{defs("chan m 04;"), defs("chan m 04;"), []string{"m", "chan m 04;"}},
		{[]api.Def{{Name: "m", Text: long}}, []api.Def{{Name: "m", Text: long}}, []string{"m", long}},
		// Those with the same name count in their order.
		{[]api.Def{{Name: "a", Text: "1"}, {Name: "b", Text: "0"}, {Name: "a", Text: "2"}}, []api.Def{{Name: "b", Text: "0"}, {Name: "a", Text: "1"}, {Name: "a", Text: "2"}}, []string{"a", "1", "a", "2", "b", "0"}},
		{[]api.Def{{Name: "a", Text: "2"}, {Name: "b", Text: "0"}, {Name: "a", Text: "1"}}, []api.Def{{Name: "b", Text: "0"}, {Name: "a", Text: "2"}, {Name: "a", Text: "1"}}, []string{"a", "2", "a", "1", "b", "0"}},
		{[]api.Def{{Name: "a", Text: "1"}, {Name: "a", Text: "2"}}, []api.Def{{Name: "a", Text: "1"}, {Name: "a", Text: "2"}}, []string{"a", "1", "a", "2"}},
		// Trees, not texts, are compared; what they use need not be there.
		{defs("proc p { check a + b + 1; }"), defs("proc p{check ((a+b))+(1);}"), []string{"p", "proc p { check a + b + 1; }"}},
		{defs("proc p { check a + (b + 1); }"), defs("proc p{check(a+(b+1));}"), []string{"p", "proc p { check a + (b + 1); }"}},
		{defs("test p { check a + b + 1; }"), defs("test p{check a+b+001;}"), []string{"p", "test p { check a + b + 1; }"}},
		{defs("proc p { if 1 { } }"), defs("proc p{if(1){}}"), []string{"p", "proc p { if 1 { } }"}},
		{defs("proc p { if 1 { } else { } }"), defs("proc p{if 1{}else{}}"), []string{"p", "proc p { if 1 { } else { } }"}},
		{defs("rec m { a = 1; b = 2; }"), defs("rec m{a=1;b=2;}"), []string{"m", "rec m { a = 1; b = 2; }"}},
		{defs("rec m { b = 2; a = 1; }"), defs("rec m{b=2;a=1;}"), []string{"m", "rec m { b = 2; a = 1; }"}},
	}
	for i, x := range forms {
		want := hash.Of(api.TagProgram, x.parts...)
		if typing.Digest(x.a) != want || typing.Digest(x.b) != want {
			t.Errorf("P7.5: Digest of\n%s and of\n%s: not that of %q", textsOf(x.a), textsOf(x.b), x.parts)
		}
		for j, y := range forms {
			for _, pair := range [][2][]api.Def{{x.a, y.a}, {x.a, y.b}, {x.b, y.a}, {x.b, y.b}} {
				if typing.Same(pair[0], pair[1]) != (i == j) {
					t.Errorf("P7.5: Same of\n%s and of\n%s: %t", textsOf(pair[0]), textsOf(pair[1]), i != j)
				}
			}
		}
	}
}

func TestLongLists(t *testing.T) {
	var l []api.Def
	for i := range 5000 {
		l = append(l, api.Def{Name: "n" + strconv.Itoa(i*7919%5000), Text: "lock n;"})
	}
	other := slices.Clone(l)
	slices.Reverse(other)
	if typing.Digest(l) != refDigest(l) || typing.Digest(other) != refDigest(l) || !typing.Same(l, other) || typing.Same(l, other[1:]) {
		t.Error("P7.5: long lists")
	}
}

// checkAll compares all functions with the reference.
func checkAll(t *testing.T, l []api.Def) api.Errno {
	t.Helper()
	at, e := refCheck(l)
	checkCheck(t, "\n"+textsOf(l), l, at, e)
	if got, want := typing.Tests(l), refTests(l); !slices.Equal(got, want) {
		t.Errorf("P7.2: Tests of\n%s: %q; want %q", textsOf(l), got, want)
	}
	for _, name := range append(strings.Split(namesOf(l), " "), "y9") {
		want, e := refUsed(l, name)
		checkUses(t, l, name, e, want...)
		slice, e := refSlice(l, name)
		if got, gotE := typing.Slice(l, name); gotE != e || !slices.Equal(got, slice) {
			t.Errorf("P7.4: Slice of %q in\n%s: %q, error %d; want %q, error %d", name, textsOf(l), namesOf(got), gotE, namesOf(slice), e)
		}
	}
	if got := typing.Digest(l); got != refDigest(l) {
		t.Errorf("P7.5: Digest of\n%s: %x", textsOf(l), got)
	}
	if got := typing.Sort(l); !slices.Equal(got, refSort(l)) {
		t.Errorf("P7.2: Sort of\n%s: %q", textsOf(l), namesOf(got))
	}
	return e
}

// lists yields drafts of many definitions, of which some have something wrong.
func lists(seed uint64, count int) func(yield func([]draft, *rand.Rand) bool) {
	return func(yield func([]draft, *rand.Rand) bool) {
		r := newRand(seed)
		for i := range count {
			wrong, cyclic := 0.0, 0.0
			if i%3 == 1 {
				wrong = 0.02
			}
			if i%3 == 2 {
				cyclic = 0.3
			}
			m := newMaker(r, wrong, cyclic)
			l := m.drafts()
			if i%4 == 3 {
				l = m.spoil(l)
			}
			if !yield(l, r) {
				return
			}
		}
	}
}

// TestReference compares with the reference for lists of every kind; of each error there have to be some.
func TestReference(t *testing.T) {
	count := map[api.Errno]int{}
	for l := range lists(2, 800) {
		count[checkAll(t, plain(l))]++
		if t.Failed() {
			return
		}
	}
	for _, e := range []api.Errno{api.OK, api.ErrForm, api.ErrRange, api.ErrName, api.ErrTwice, api.ErrNone, api.ErrType, api.ErrCycle} {
		if count[e] < 10 {
			t.Errorf("the error %d was there %d times", e, count[e])
		}
	}
}

// TestOrder is P7.6.
func TestOrder(t *testing.T) {
	built := 0
	for drafts, r := range lists(3, 400) {
		l := plain(drafts)
		other := slices.Clone(l)
		r.Shuffle(len(other), func(i, j int) { other[i], other[j] = other[j], other[i] })
		if isRepeated(strings.Fields(namesOf(l))) {
			continue
		}
		n, e := typing.Check(l)
		m, f := typing.Check(other)
		if (e == api.OK) != (f == api.OK) || e == api.OK && n != m {
			t.Errorf("P7.6: Check of\n%s: %d, error %d; in another order: %d, error %d", textsOf(l), n, e, m, f)
		}
		if e == api.OK {
			built++
		}
		if !slices.Equal(typing.Tests(l), typing.Tests(other)) || typing.Digest(l) != typing.Digest(other) || !typing.Same(l, other) {
			t.Errorf("P7.6: Tests, Digest or Same of\n%s in another order", textsOf(l))
		}
		for _, d := range l {
			a, e := typing.Uses(l, d.Name)
			b, f := typing.Uses(other, d.Name)
			if e != f || !slices.Equal(a, b) {
				t.Errorf("P7.6: Uses of %q in\n%s in another order", d.Name, textsOf(l))
			}
			x, e := typing.Slice(l, d.Name)
			y, f := typing.Slice(other, d.Name)
			if (e == api.OK) != (f == api.OK) || !slices.Equal(x, y) {
				t.Errorf("P7.6: Slice of %q in\n%s in another order", d.Name, textsOf(l))
			}
		}
	}
	if built < 100 {
		t.Errorf("only %d lists built", built)
	}
}

// TestSliceProperty is P7.7.
func TestSliceProperty(t *testing.T) {
	left := 0
	for drafts := range lists(4, 150) {
		l := plain(drafts)
		if _, e := typing.Check(l); e != api.OK {
			continue
		}
		for _, d := range l {
			s, e := typing.Slice(l, d.Name)
			if n, f := typing.Check(s); e != api.OK || f != api.OK || n != len(s) {
				t.Fatalf("P7.7: Slice of %q in\n%s: %q, error %d; its Check: %d, error %d", d.Name, textsOf(l), namesOf(s), e, n, f)
			}
			for _, x := range s {
				inner, e := typing.Slice(l, x.Name)
				for _, y := range inner {
					if e != api.OK || !slices.Contains(s, y) {
						t.Errorf("P7.7: %q rests on %q, and this on %q", d.Name, x.Name, y.Name)
					}
				}
			}
			for _, x := range l {
				rest := without(l, x.Name)
				if _, e := typing.Check(rest); e != api.OK || slices.Contains(s, x) {
					continue
				}
				left++
				if again, e := typing.Slice(rest, d.Name); e != api.OK || !slices.Equal(again, s) {
					t.Errorf("P7.7: Slice of %q in\n%s: %q; without %q: %q, error %d", d.Name, textsOf(l), namesOf(s), x.Name, namesOf(again), e)
				}
			}
		}
	}
	if left < 500 {
		t.Errorf("only %d definitions could be left out", left)
	}
}

// TestMeaningProperty is P7.8.
func TestMeaningProperty(t *testing.T) {
	count := map[api.Errno]int{}
	for drafts, r := range lists(5, 800) {
		l, other := plain(drafts), loose(drafts, r)
		// Of texts that cannot be read there is no other form.
		for i, d := range l {
			if refError(d.Text) != api.OK {
				other[i] = d
			}
		}
		if !typing.Same(l, other) || !typing.Same(other, l) || typing.Digest(l) != typing.Digest(other) {
			t.Fatalf("P7.8: Same and Digest of\n%s and of\n%s", textsOf(l), textsOf(other))
		}
		n, e := typing.Check(l)
		m, f := typing.Check(other)
		if n != m || e != f {
			t.Fatalf("P7.8: Check of\n%s: %d, error %d; of\n%s: %d, error %d", textsOf(l), n, e, textsOf(other), m, f)
		}
		count[e]++
	}
	for _, e := range []api.Errno{api.OK, api.ErrForm, api.ErrName, api.ErrTwice, api.ErrNone, api.ErrType, api.ErrCycle} {
		if count[e] < 5 {
			t.Errorf("the error %d was there %d times", e, count[e])
		}
	}
}

// longest returns the most calls that follow one another from a definition on, up to a bound.
func longest(l []api.Def, name string, bound int) int {
	most := 0
	for _, u := range refUses(l[indexOf(l, name)].Text) {
		if isCall(u) && bound > 0 {
			most = max(most, 1+longest(l, u.name, bound-1))
		}
	}
	return most
}

// TestCalls is P7.9.
func TestCalls(t *testing.T) {
	seen := 0
	for drafts := range lists(6, 400) {
		l := plain(drafts)
		if _, e := typing.Check(l); e != api.OK {
			continue
		}
		for _, d := range l {
			n := longest(l, d.Name, len(l)+1)
			seen = max(seen, n)
			if n > len(l) {
				t.Errorf("P7.9: more than %d calls follow one another from %q in\n%s", len(l), d.Name, textsOf(l))
			}
		}
	}
	if seen < 3 {
		t.Errorf("no more than %d calls followed one another", seen)
	}
}

// TestOddNames: names and texts may be any strings.
func TestOddNames(t *testing.T) {
	odd := []string{"", " ", "a", "a ", "\x00", "\xff", "é", "$a", "a.b", "lock", "lock a;", "proc p { }", "proc p { call p; }", "test a { a.b = 1; }", strings.Repeat("a", 17), "lock " + strings.Repeat("a", 17) + ";", strings.Repeat("(", 2000), strings.Repeat("a", 100000)}
	r := newRand(8)
	for range 300 {
		var l []api.Def
		for range r.IntN(6) {
			l = append(l, api.Def{Name: odd[r.IntN(len(odd))], Text: odd[r.IntN(len(odd))]})
		}
		checkAll(t, l)
		for _, name := range odd {
			want, e := refUsed(l, name)
			checkUses(t, l, name, e, want...)
		}
		if t.Failed() {
			return
		}
	}
}

// TestMemory: arguments stay as they are, results can be changed without effect, and equal calls have equal results.
func TestMemory(t *testing.T) {
	l := example()
	before := slices.Clone(l)
	calls := func() string {
		n, e := typing.Check(l)
		s, f := typing.Slice(l, "t")
		u, g := typing.Uses(l, "t")
		d := typing.Digest(l)
		out := strconv.Itoa(n) + textsOf(s) + textsOf(typing.Sort(l)) + strings.Join(u, " ") + strings.Join(typing.Tests(l), " ") + string(d[:]) + strconv.FormatBool(typing.Same(l, before))
		return out + strconv.Itoa(int(e+f+g))
	}
	first := calls()
	s, _ := typing.Slice(l, "t")
	u, _ := typing.Uses(l, "t")
	sorted, tests := typing.Sort(l), typing.Tests(l)
	for _, x := range [][]api.Def{s, sorted} {
		for i := range x {
			x[i] = api.Def{Name: "changed"}
		}
		_ = append(x, api.Def{Name: "changed"})
	}
	u[0], tests[0] = "changed", "changed"
	if !slices.Equal(l, before) {
		t.Error("arguments were changed")
	}
	for range 20 {
		if calls() != first {
			t.Error("equal calls have other results")
		}
	}
	// What lies behind a list is not touched.
	for n := range len(l) {
		typing.Check(l[:n])
		typing.Sort(l[:n])
		typing.Digest(l[:n])
	}
	if !slices.Equal(l, before) {
		t.Error("what lies behind an argument was changed")
	}
}
