package race_test

import (
	"fmt"
	"math"
	"slices"
	"testing"

	"culprit/api"
	"culprit/code"
	"culprit/machine"
	"culprit/play"
	"culprit/race"
)

// example is the test of the chapter's examples.
func example(t *testing.T) test {
	return testOf(t, "var x = 0;", "proc p { x = x + 1; }", "test t { go p; x = x + 1; }")
}

// onX returns a race on x.
func onX(first, second int, from, to string, a, b int) race.Race {
	return race.Race{First: first, Second: second, Var: "x", Wheres: [2]string{from, to}, PCs: [2]int{a, b}}
}

func (x test) clocks(t *testing.T, word []int) [][]int {
	t.Helper()
	l, e := race.Clocks(x.c, x.e, x.left, word)
	if e != api.OK {
		t.Fatalf("P13.1: Clocks of %v: %v", word, e)
	}
	return l
}

func TestExample(t *testing.T) {
	x := example(t)
	for _, c := range []struct {
		word   []int
		clocks [][]int
		races  []race.Race
	}{
		{nil, [][]int{{1, 0}, {2, 0}, {3, 0}, {4, 0}}, nil},
		{[]int{0, 0, 0}, [][]int{{1, 0}, {2, 0}, {3, 0}, {4, 0}}, nil},
		{[]int{1}, [][]int{{1, 0}, {1, 1}, {2, 0}, {3, 0}, {4, 0}}, []race.Race{onX(1, 3, "p", "t", 0, 9)}},
		{[]int{1, 1}, [][]int{{1, 0}, {1, 1}, {1, 2}, {2, 0}, {3, 0}, {4, 0}}, []race.Race{onX(1, 4, "p", "t", 0, 9), onX(2, 3, "p", "t", 3, 6), onX(2, 4, "p", "t", 3, 9)}},
		{[]int{1, 1, 1, 0, 0}, [][]int{{1, 0}, {1, 1}, {1, 2}, {1, 3}, {2, 0}, {3, 0}, {4, 0}}, []race.Race{onX(1, 5, "p", "t", 0, 9), onX(2, 4, "p", "t", 3, 6), onX(2, 5, "p", "t", 3, 9)}},
		{[]int{0, 0, 1, 1}, [][]int{{1, 0}, {2, 0}, {3, 0}, {1, 1}, {1, 2}, {4, 0}}, []race.Race{onX(1, 4, "t", "p", 6, 3), onX(2, 3, "t", "p", 9, 0), onX(2, 4, "t", "p", 9, 3)}},
	} {
		if l := x.clocks(t, c.word); !sameLists(l, c.clocks) {
			t.Errorf("P13.1: Clocks of %v: %v; want %v", c.word, l, c.clocks)
		}
		if l, e := race.Races(x.c, x.e, x.left, c.word); e != api.OK || !slices.Equal(l, c.races) {
			t.Errorf("P13.3: Races of %v: %v, %v; want %v", c.word, l, e, c.races)
		}
	}
	l, e := race.Pairs(x.c, x.e, x.left, 100)
	want := []race.Race{onX(2, 3, "p", "t", 0, 9), onX(2, 3, "p", "t", 3, 6), onX(2, 4, "p", "t", 3, 9), onX(2, 3, "t", "p", 9, 0), onX(1, 3, "t", "p", 6, 3), onX(2, 4, "t", "p", 9, 3)}
	if e != api.OK || !slices.Equal(l, want) {
		t.Errorf("P13.5: Pairs: %v, %v; want %v", l, e, want)
	}
}

// TestBonds: how many of the steps that the thread 1 has made are before the next step of the thread 0.
func TestBonds(t *testing.T) {
	for _, c := range []struct {
		of1 string // what the thread 1 does, as many steps of it as it says
		n   int
		of0 string // what the thread 0 does next
		env api.Env
		k   int // with which alternative of its last step the thread 1 does it
		all int // how many are before the step of the thread 0
	}{
		{of1: "x = 1;", n: 1, of0: "x = 2;"},
		{of1: "x = 1;", n: 1, of0: "$a = x;"},
		{of1: "draw $a 2;", n: 1, of0: "draw $a 2;", k: 1},
		{of1: "now $a;", n: 1, of0: "now $a;"},
		{of1: "now $a;", n: 1, of0: "now $a;", env: api.Env{Skew: 2}, k: 1},
		{of1: "x = 1; sleep 1;", n: 1, of0: "x = 1;"},
		// locks: those that are named, and not those at which a thread comes to stand
		{of1: "acquire k; release k;", n: 2, of0: "acquire k;", all: 2},
		{of1: "acquire k; release k; x = 1;", n: 3, of0: "acquire k;", all: 2},
		{of1: "acquire k; release k;", n: 2, of0: "acquire l;"},
		{of1: "acquire l;", n: 1, of0: "acquire k;"},
		{of1: "acquire k; release k;", n: 2, of0: "x = 1; acquire k;"},
		{of1: "x = 1; acquire k;", n: 1, of0: "acquire k;"},
		{of1: "x = 1; acquire k;", n: 1, of0: "y = 1; acquire k;"},
		// channels with a capacity, and those without one
		{of1: "send c 1;", n: 1, of0: "recv c $a;", all: 1},
		{of1: "send e 1;", n: 1, of0: "send e 1;", all: 1},
		{of1: "send e 1; send e 1; recv e $a;", n: 3, of0: "recv e $a;", all: 3},
		{of1: "send e 1; recv e $a; x = 1;", n: 3, of0: "send e 1;", all: 2},
		{of1: "send c 1;", n: 1, of0: "send e 1;"},
		{of1: "send e 1;", n: 1, of0: "x = 1; recv e $a;"},
		{of1: "x = 1; recv d $a;", n: 1, of0: "send d 1;", all: 1},
		{of1: "x = 1; recv d $a;", n: 1, of0: "y = 1;"},
		{of1: "x = 1; recv d $a;", n: 1, of0: "y = 1; recv d $a;"},
		{of1: "x = 1; send d 1;", n: 1, of0: "y = 1; recv d $a;"},
		// files: two readings are not bound
		{of1: "write f 1;", n: 1, of0: "write f 1;", all: 1},
		{of1: "write f 1;", n: 1, of0: "read f $a;", all: 1},
		{of1: "read f $a;", n: 1, of0: "write f 1;", all: 1},
		{of1: "read f $a;", n: 1, of0: "read f $a;"},
		{of1: "write f 1;", n: 1, of0: "read g $a;"},
		{of1: "write f 1;", n: 1, of0: "write g 1;"},
		{of1: "read f $a; write f 1; read f $a;", n: 3, of0: "read f $a;", all: 2},
		{of1: "write f 1; read f $a; x = 1;", n: 3, of0: "write f 1;", all: 2},
		{of1: "write f 1;", n: 1, of0: "read f $a;", env: api.Env{Fault: 2}, k: 1, all: 1}, // a lost one is like any other
		{of1: "read f $a;", n: 1, of0: "write f 1;", env: api.Env{Fault: 2}, all: 1},
		// threads, but not how many of them there are
		{of1: "go q;", n: 1, of0: "go q;"},
		{of1: "x = 1;", n: 2, of0: "go q;"},
		// objects of different kinds, all with the number 0
		{of1: "acquire k; release k;", n: 2, of0: "write f 1;"},
		{of1: "acquire k; release k;", n: 2, of0: "send c 1;"},
		{of1: "write f 1;", n: 1, of0: "send c 1;"},
		{of1: "send c 1;", n: 1, of0: "acquire k;"},
		{of1: "x = 1;", n: 1, of0: "acquire k;"},
	} {
		x := testOf(t, "var x = 0;", "var y = 0;", "chan c 1;", "chan d 0;", "chan e 2;", "lock k ;", "lock l ;", "file f ;", "file g ;", "proc q { y = 3; }",
			"proc p { "+c.of1+" }", "test t { go p; "+c.of0+" x = 7; }").in(c.env)
		r := x.early(t, c.n, c.k)
		clocks := x.clocks(t, r.word)
		if next := clocks[c.n+1]; !slices.Equal(next[:2], []int{2, c.all}) {
			t.Errorf("P13.1: of %s, ahead of %s: the clock %v; want %d steps", c.of1, c.of0, next, c.all)
		}
		if !sameLists(clocks, refClocks(r)) {
			t.Errorf("P13.1: Clocks of %s, and %s: %v; want %v", c.of1, c.of0, clocks, refClocks(r))
		}
		if is := race.Before(clocks, r.threads(), c.n, c.n+1); is != (c.all == c.n) {
			t.Errorf("P13.2: Before of the last step of %s, and %s: %v", c.of1, c.of0, is)
		}
	}
}

// early returns the run in which the thread 1 makes n steps as soon as it is started, each with the alternative k, if it has it, and then the thread 0 as many as it can.
func (x test) early(t *testing.T, n, k int) toldRun {
	t.Helper()
	r := x.begin()
	for r.last.Outcome == -1 {
		p, _ := machine.Next(x.c, x.e, r.last)
		is1 := len(r.steps) > 0 && len(r.steps) <= n
		alternative := 0
		switch {
		case p.Thread == -1 && is1:
			alternative = slices.Index(machine.Enabled(x.c, r.last), 1)
		case p.Thread == 1 && k < len(p.Parts):
			alternative = k
		}
		r = x.onward(r, alternative)
	}
	for i, s := range r.steps[:n+2] {
		if is1 := i > 0 && i <= n; is1 != (s.thread == 1) {
			t.Fatal("the run is another one:", r)
		}
	}
	return r
}

func TestClocks(t *testing.T) {
	spawn := "proc p { sleep 9; }"
	for _, c := range []struct {
		what string
		test test
		word []int
		want [][]int
	}{
		{"a run without steps", testOf(t, "test t { check 0; }"), nil, nil},
		{"a run with one step", testOf(t, "test t { }"), nil, [][]int{{1}}},
		{"a Send to a thread that waits", testOf(t, "var x = 0;", "chan d 0;", "proc p { recv d $a; x = 1; }", "test t { go p; x = 2; send d 1; }"), []int{1}, [][]int{{1, 0}, {2, 0}, {3, 0}, {3, 1}, {4, 0}}},
		{"a Send to a thread that has made steps", testOf(t, "var x = 0;", "chan d 0;", "proc p { x = 1; recv d $a; }", "test t { go p; send d 1; }"), nil, [][]int{{1, 0}, {1, 1}, {2, 1}, {3, 1}}},
		{"two readings ahead of a Write", testOf(t, "file f ;", "proc p { read f $a; }", "test t { go p; go p; write f 1; }"), []int{0, 1, 2}, [][]int{{1, 0, 0}, {2, 0, 0}, {1, 1, 0}, {2, 0, 1}, {3, 1, 1}, {4, 1, 1}}},
		{"two readings behind a Write", testOf(t, "file f ;", "proc p { read f $a; }", "test t { go p; go p; write f 1; }"), []int{0, 0, 1, 2}, [][]int{{1, 0, 0}, {2, 0, 0}, {3, 0, 0}, {3, 1, 0}, {3, 0, 1}, {4, 0, 0}}},
		{"a thread that a thread starts", testOf(t, "var x = 0;", "proc p { go q; }", "proc q { x = 1; }", "test t { go p; x = 2; }"), []int{1, 2}, [][]int{{1, 0, 0}, {1, 1, 0}, {1, 1, 1}, {2, 0, 0}, {3, 0, 0}}},
		{"a thread that has ended, and one started then", testOf(t, "proc p { }", "test t { go p; go p; }"), []int{1, 1}, [][]int{{1, 0, 0}, {1, 1, 0}, {2, 0, 0}, {2, 0, 1}, {3, 0, 0}}},
		{"a thread too many", testOf(t, spawn, "test t { go p; go p; go p; go p; go p; }"), nil, [][]int{{1, 0, 0, 0, 0}, {2, 0, 0, 0, 0}, {3, 0, 0, 0, 0}, {4, 0, 0, 0, 0}, {5, 0, 0, 0, 0}}},
		{"a lock through three threads", testOf(t, "var x = 0;", "lock l ;", "proc p { acquire l; release l; }", "test t { go p; go p; acquire l; release l; }"), []int{0, 1, 2, 1}, [][]int{{1, 0, 0}, {2, 0, 0}, {1, 1, 0}, {1, 2, 0}, {2, 2, 1}, {2, 2, 2}, {3, 2, 2}, {4, 2, 2}, {5, 2, 2}}},
	} {
		x := c.test
		if l := x.clocks(t, c.word); !sameLists(l, c.want) {
			t.Errorf("P13.1: Clocks of %s: %v; want %v", c.what, l, c.want)
		}
	}
}

// TestLast: the last steps of runs, which can be those that cannot be done.
func TestLast(t *testing.T) {
	put := code.Code{
		Instrs: []api.Instr{{Op: code.Put}, {Op: code.Back}, {Op: code.Go}, {Op: code.Push, A: 5}, {Op: code.Put}, {Op: code.End}},
		Begins: []int{0, 2}, Locals: []int{0, 0}, Vars: []api.Cell{{Name: "x"}}, Names: []string{"p", "t"},
	}
	send := code.Code{
		Instrs: []api.Instr{{Op: code.Send}, {Op: code.Back}, {Op: code.Go}, {Op: code.Push, A: 5}, {Op: code.Send}, {Op: code.End}},
		Begins: []int{0, 2}, Locals: []int{0, 0}, Chans: []api.Cell{{Name: "c", N: 2}}, Names: []string{"p", "t"},
	}
	failing := testOf(t, "var x = 0;", "proc p { check x; }", "test t { go p; x = 0; x = 1; }")
	for _, c := range []struct {
		what    string
		test    test
		word    []int
		outcome int
		clocks  [][]int
		races   []race.Race
		turned  []int
	}{
		{"a Put that cannot be done", test{c: put}, []int{0, 1}, api.Broken, [][]int{{1, 0}, {2, 0}, {1, 1}}, []race.Race{onX(1, 2, "t", "p", 4, 0)}, []int{1}},
		{"such a Put ahead of the other one", test{c: put}, []int{1}, api.Broken, [][]int{{1, 0}, {1, 1}}, nil, nil},
		{"a Send that cannot be done", test{c: send}, []int{0, 1}, api.Broken, [][]int{{1, 0}, {2, 0}, {2, 1}}, nil, nil},
		{"a Get of what is checked", failing, []int{0, 1}, api.Failed, [][]int{{1, 0}, {2, 0}, {1, 1}}, []race.Race{onX(1, 2, "t", "p", 5, 0)}, []int{1}},
		{"the End of the test", failing, nil, api.Passed, [][]int{{1, 0}, {2, 0}, {3, 0}, {4, 0}}, nil, nil},
	} {
		x := c.test
		if r, e := play.Play(x.c, x.e, x.left, c.word); e != api.OK || r.Result.Outcome != c.outcome {
			t.Fatal(c.what, r.Result, e)
		}
		if l := x.clocks(t, c.word); !sameLists(l, c.clocks) {
			t.Errorf("P13.1: Clocks with %s: %v; want %v", c.what, l, c.clocks)
		}
		l, e := race.Races(x.c, x.e, x.left, c.word)
		if e != api.OK || !slices.Equal(l, c.races) {
			t.Errorf("P13.3: Races with %s: %v, %v; want %v", c.what, l, e, c.races)
		}
		for _, of := range l {
			if word, e := race.Turn(x.c, x.e, x.left, c.word, of); e != api.OK || !slices.Equal(word, c.turned) {
				t.Errorf("P13.4: Turn with %s: %v, %v; want %v", c.what, word, e, c.turned)
			}
		}
	}
}

// TestRaces: which accesses of two threads are races, if the thread 1 is first.
func TestRaces(t *testing.T) {
	for _, c := range []struct {
		of1  string
		n    int // how many steps the thread 1 makes first
		of0  string
		want []string // the variable, and the numbers of the steps
	}{
		{"x = 1;", 1, "x = 2;", []string{"x 1 2"}},
		{"x = 1;", 1, "$a = x;", []string{"x 1 2"}},
		{"$a = x;", 1, "x = 1;", []string{"x 1 2"}},
		{"$a = x;", 1, "$a = x;", nil},
		{"x = 1;", 1, "y = 2;", nil},
		{"x = 1; y = 1;", 2, "y = 2; x = 2;", []string{"x 1 4", "y 2 3"}},
		{"x = 1; y = 1;", 2, "x = 2; y = 2;", []string{"x 1 3", "y 2 4"}},
		{"z.m = 1; z.n = 2;", 2, "z.n = 3;", []string{"z.n 2 3"}},
		{"x = 1; x = 1;", 2, "x = 1; x = 1;", []string{"x 1 3", "x 1 4", "x 2 3", "x 2 4"}},
		{"x = 1; acquire l; release l; x = 2;", 4, "x = 3; acquire l; x = 4; release l;", []string{"x 1 5", "x 4 5", "x 4 7"}},
		{"acquire l; x = 1; release l;", 3, "acquire l; x = 2; release l;", nil},
		{"acquire l; x = 1; release l;", 3, "acquire k; x = 2; release k;", []string{"x 2 5"}},
		{"acquire l; x = 1; release l;", 3, "x = 2;", []string{"x 2 4"}},
		{"x = 1; send c 1;", 2, "recv c $a; x = 2;", nil},
		{"x = 1; send c 1; x = 3;", 3, "recv c $a; x = 2;", []string{"x 3 5"}},
		{"x = 1; write f 1;", 2, "read f $a; x = 2;", nil},
		{"x = 1; read f $a;", 2, "write f 1; x = 2;", nil},
		{"x = 1; read f $a;", 2, "read f $a; x = 2;", []string{"x 1 4"}},
		{"write f 1; send c 2;", 2, "send c 1; read f $a;", nil},
	} {
		x := testOf(t, "var x = 0;", "var y = 0;", "rec z { m = 0; n = 0; }", "chan c 3;", "lock k ;", "lock l ;", "file f ;", "proc p { "+c.of1+" y = 9; }", "test t { go p; "+c.of0+" sleep 9; }")
		r := x.early(t, c.n, 0)
		l, e := race.Races(x.c, x.e, x.left, r.word)
		var want []race.Race
		for _, text := range c.want {
			want = append(want, raceOf(t, x, r, text))
		}
		// The thread 1 goes on while the test sleeps.
		l = slices.DeleteFunc(l, func(of race.Race) bool { return of.Var == "y" && r.steps[of.Second].thread == 1 })
		if e != api.OK || !slices.Equal(l, want) {
			t.Errorf("P13.3: Races of %s, and %s: %v, %v; want %v", c.of1, c.of0, l, e, want)
		}
	}
}

// raceOf returns the race that is written as its variable and its steps.
func raceOf(t *testing.T, x test, r toldRun, text string) race.Race {
	t.Helper()
	var name string
	var numbers [2]int
	if _, e := fmt.Sscan(text, &name, &numbers[0], &numbers[1]); e != nil {
		t.Fatal(e, text)
	}
	of := race.Race{First: numbers[0], Second: numbers[1], Var: name}
	for i, k := range numbers {
		of.PCs[i], of.Wheres[i] = r.steps[k].pc, nameAt(x.c, r.steps[k].pc)
	}
	return of
}

// TestWhere: the places of races are those of the instructions, also in procedures that are called.
func TestWhere(t *testing.T) {
	x := testOf(t, "var x = 0;", "proc o { x = 1; }", "proc p { call o; }", "test t { go p; call o; }")
	l, e := race.Races(x.c, x.e, x.left, []int{1})
	if want := onX(1, 2, "o", "o", 1, 1); e != api.OK || !slices.Equal(l, []race.Race{want}) {
		t.Errorf("P13.3: Races of a procedure that is called: %v, %v; want %v", l, e, want)
	}
	pairs, e := race.Pairs(x.c, x.e, x.left, 100)
	if e != api.OK || !slices.Equal(pairs, []race.Race{onX(1, 2, "o", "o", 1, 1)}) {
		t.Errorf("P13.5: Pairs of a procedure that is called: %v, %v", pairs, e)
	}
	if word, e := race.Turn(x.c, x.e, x.left, []int{1}, l[0]); e != api.OK || len(word) != 0 {
		t.Errorf("P13.4: Turn in a procedure that is called: %v, %v", word, e)
	}
}

// TestArguments: what is left, and the environment, count.
func TestArguments(t *testing.T) {
	x := testOf(t, "var x = 0;", "var y = 0;", "file f ;", "proc p { x = 1; }", "test t { go p; read f $a; if $a { x = 2; } if y { x = 3; } if kind { x = 4; } sleep 9; }")
	for _, c := range []struct {
		what string
		test test
		n    int // how many Puts of x the test makes
	}{
		{"nothing", x, 0},
		{"a file", x.in(api.Env{}, api.Cell{Name: "f", N: 1}), 1},
		{"a variable", x.in(api.Env{}, api.Cell{Name: "y", N: 1}), 1},
		{"both", x.in(api.Env{}, api.Cell{Name: "y", N: 1}, api.Cell{Name: "f", N: 1}), 2},
		{"a kind", x.in(api.Env{Kind: 2}), 1},
		{"a kind, and both", x.in(api.Env{Kind: 2, Fault: 8, Skew: 8}, api.Cell{Name: "y", N: 1}, api.Cell{Name: "f", N: 1}), 3},
	} {
		races, e := race.Races(c.test.c, c.test.e, c.test.left, []int{1})
		pairs, f := race.Pairs(c.test.c, c.test.e, c.test.left, 500)
		if e != api.OK || f != api.OK || len(races) != c.n || len(pairs) != 2*c.n {
			t.Errorf("P13.3: with %s: %d Races, %v; %d Pairs, %v", c.what, len(races), e, len(pairs), f)
		}
		if l := c.test.clocks(t, []int{1}); len(l) != 6+c.n+1 {
			t.Errorf("P13.1: with %s: the clocks %v", c.what, l)
		}
		for _, of := range races {
			if word, e := race.Turn(c.test.c, c.test.e, c.test.left, []int{1}, of); e != api.OK || len(word) != 0 {
				t.Errorf("P13.4: with %s: Turn of %v: %v, %v", c.what, of, word, e)
			}
		}
	}
}

func TestBefore(t *testing.T) {
	clocks, threads := [][]int{{1, 0}, {1, 1}, {2, 0}, {3, 1}}, []int{0, 1, 0, 0}
	for _, c := range []struct {
		what    string
		clocks  [][]int
		threads []int
		i, k    int
		want    bool
	}{
		{"a step and the next one of another thread", clocks, threads, 0, 1, true},
		{"steps of one thread", clocks, threads, 0, 2, true},
		{"steps of one thread, the other way round", clocks, threads, 2, 0, false},
		{"steps that nothing binds", clocks, threads, 1, 2, false},
		{"steps that nothing binds, the other way round", clocks, threads, 2, 1, false},
		{"a step of another thread", clocks, threads, 1, 3, true},
		{"a step and itself", clocks, threads, 1, 1, false},
		{"no lists", nil, nil, 0, 1, false},
		{"no threads", clocks, nil, 0, 1, false},
		{"no clocks", nil, threads, 0, 1, false},
		{"i is no index of the threads", clocks, threads[:2], 2, 1, false},
		{"k is no index of the threads", clocks, threads[:2], 0, 2, false},
		{"k is no index of the clocks", clocks[:2], threads, 0, 2, false},
		{"i is no index of the clocks", [][]int{{0}}, []int{0, 0}, 1, 0, false},
		{"i is negative", clocks, threads, -1, 1, false},
		{"k is negative", clocks, threads, 1, -1, false},
		{"great numbers", clocks, threads, math.MaxInt, math.MinInt, false},
		{"the thread of i is not in its clock", [][]int{{1}, {1, 1}}, []int{1, 0}, 0, 1, false},
		{"the thread of i is not in the clock of k", [][]int{{1, 1}, {1}}, []int{1, 0}, 0, 1, false},
		{"the thread of i is negative", clocks, []int{-1, 0}, 0, 1, false},
		{"the thread of k is any", clocks, []int{0, -1}, 0, 1, true},
		{"an equal number", [][]int{{1}, {1}}, []int{0, 0}, 0, 1, true},
		{"an equal number, backward", [][]int{{1}, {1}}, []int{0, 0}, 1, 0, true},
		{"a greater number", [][]int{{1}, {2}}, []int{0, 0}, 0, 1, true},
		{"a lesser number", [][]int{{2}, {1}}, []int{0, 0}, 0, 1, false},
		{"negative numbers", [][]int{{math.MinInt}, {math.MinInt}}, []int{0, 0}, 0, 1, true},
		{"clocks of different lengths", [][]int{{0, 1, 5}, {7, 1}}, []int{1, 5}, 0, 1, true},
		{"another number in the clock of i", [][]int{{9, 1}, {0, 1}}, []int{1, 0}, 0, 1, true},
	} {
		if is := race.Before(c.clocks, c.threads, c.i, c.k); is != c.want {
			t.Errorf("P13.2: Before of %s: %v", c.what, is)
		}
	}
}

// TestErrorsOfRuns: the errors of all functions that play runs, and nothing beside them.
func TestErrorsOfRuns(t *testing.T) {
	x := example(t)
	long := make([]int, api.MaxWord+1)
	of := onX(1, 4, "p", "t", 0, 9)
	for _, c := range []struct {
		what string
		test test
		word []int
		want api.Errno
	}{
		{"no code", test{}, long, api.ErrArg},
		{"a code with too many instructions", test{c: code.Code{Instrs: make([]api.Instr, 513)}}, nil, api.ErrLimit},
		{"a code with a wrong instruction", test{c: code.Code{Instrs: []api.Instr{{Op: code.Back}}, Begins: []int{0}, Locals: []int{0}, Names: []string{"t"}}}, long, api.ErrForm},
		{"an environment that is not proper", x.in(api.Env{Kind: 4}), long, api.ErrArg},
		{"a Fault below 0", x.in(api.Env{Fault: -1}), []int{2}, api.ErrArg},
		{"too many cells", x.in(api.Env{Skew: 8}, make([]api.Cell, 65)...), []int{2}, api.ErrLimit},
		{"a long word", x, long, api.ErrLimit},
		{"no such alternative", x, []int{2}, api.ErrRange},
		{"a negative alternative", x, []int{1, -1}, api.ErrRange},
		{"more than is used", x, []int{0, 0, 0, 1}, api.ErrMore},
	} {
		c.test.refusedWord(t, c.what, c.word, of, c.want)
		c.test.refusedWord(t, c.what, c.word, race.Race{}, c.want)
	}
}

func TestErrorsOfPairs(t *testing.T) {
	x := example(t)
	l, few := x.all(100)
	if !few {
		t.Fatal("there are many runs")
	}
	all, e := race.Pairs(x.c, x.e, x.left, len(l))
	if e != api.OK || len(all) != 6 {
		t.Errorf("P13.5: Pairs with as many as there are runs: %v, %v", all, e)
	}
	if l, e := race.Pairs(x.c, x.e, x.left, api.MaxGraph); e != api.OK || !slices.Equal(l, all) {
		t.Errorf("P13.5: Pairs with as many as are allowed: %v, %v", l, e)
	}
	for _, c := range []struct {
		what string
		test test
		most int
		want api.Errno
	}{
		{"one run less", x, len(l) - 1, api.ErrLimit},
		{"one run", x, 1, api.ErrLimit},
		{"no run", x, 0, api.ErrArg},
		{"a negative number", x, math.MinInt, api.ErrArg},
		{"too great a number", x, api.MaxGraph + 1, api.ErrArg},
		{"the greatest number", x, math.MaxInt, api.ErrArg},
		{"too many cells, and no run", x.in(api.Env{}, make([]api.Cell, 65)...), 0, api.ErrLimit},
		{"an environment that is not proper", x.in(api.Env{Fault: 9}), 100, api.ErrArg},
		{"no code", test{}, 100, api.ErrArg},
		{"a code that is not valid, and no run", test{c: code.Code{Instrs: make([]api.Instr, 513)}}, 0, api.ErrLimit},
	} {
		if l, e := race.Pairs(c.test.c, c.test.e, c.test.left, c.most); e != c.want || len(l) != 0 {
			t.Errorf("P13.5: Pairs with %s: %v, %v; want %v", c.what, l, e, c.want)
		}
	}
}
