package commute_test

import (
	"math"
	"slices"
	"testing"

	"culprit/api"
	"culprit/code"
	"culprit/commute"
)

// A written test has the words of its classes, and how many runs and ends it has, written out.
type written struct {
	what    string
	test    test
	runs    int
	classes [][]int
	ends    int
}

func writtenTests(t *testing.T) []written {
	file := testOf(t, "file f ;", "test t { write f 1; now $a; read f $b; check $b == 1; check $a == 1; }")
	found := testOf(t, "var x = 0;", "proc p { $b = 1; }", "test t { go p; if x < 2 { draw $a 2; } }")
	kind := testOf(t, "test t { if kind == 2 { draw $a 3; } }")
	return []written{
		{"the example", example(t), 6, [][]int{{}, {0, 1}, {0, 1, 1}}, 3},
		{"two that put one variable", testOf(t, "var x = 0;", "proc p { x = 1; }", "test t { go p; x = 2; }"), 6, [][]int{{}, {1}, {0, 1}, {0, 1, 1}, {1, 0, 1}}, 5},
		{"a draw", testOf(t, "test t { draw $a 3; check $a < 2; }"), 3, [][]int{{}, {1}, {2}}, 2},
		{"two draws", testOf(t, "test t { draw $a 3; draw $b 2; check $a * $b < 2; }"), 6, [][]int{{}, {1}, {2}, {0, 1}, {1, 1}, {2, 1}}, 2},
		{"no choice", testOf(t, "test t { }"), 1, [][]int{{}}, 1},
		{"over at once", testOf(t, "test t { check 0; }"), 1, [][]int{{}}, 1},
		{"a step that cannot be done", testOf(t, "lock l ;", "test t { release l; }"), 1, [][]int{{}}, 1},
		{"silent without an end", testOf(t, "test t { draw $a 2; while $a { } }"), 2, [][]int{{}, {1}}, 2},
		{"64 steps", testOf(t, "var x = 0;", "test t { while 1 { x = 3; } }"), 1, [][]int{{}}, 1},
		{"two receivers", testOf(t, "chan d 0;", "proc q { recv d $a; check 0; }", "proc p { recv d $a; check 1; check 0; }", "test t { go q; go p; send d 1; }"), 2, [][]int{{}, {1}}, 2},
		{"a lock that is not released", testOf(t, "lock l ;", "proc p { acquire l; }", "test t { go p; acquire l; }"), 2, [][]int{{}, {1}}, 2},
		{"threads that do not depend on each other", testOf(t, "var a = 0;", "var b = 0;", "proc p { a = 1; a = 2; a = 3; }", "test t { go p; b = 1; b = 2; b = 3; b = 4; }"), 126, [][]int{{}, {0, 0, 0, 0, 1}, {0, 0, 0, 0, 1, 1}, {0, 0, 0, 0, 1, 1, 1}, {0, 0, 0, 0, 1, 1, 1, 1}}, 5},
		{"faults", file.in(api.Env{Fault: 3, Skew: 5}), 4, [][]int{{}, {1}, {0, 1}, {1, 1}}, 4},
		{"no faults", file, 1, [][]int{{}}, 1},
		{"nothing was left", found, 8, [][]int{{}, {0, 0, 1}, {0, 0, 0, 1}, {0, 0, 1, 1}}, 2},
		{"something was left", found.in(api.Env{}, api.Cell{Name: "x", N: 2}), 3, [][]int{{}, {0, 1}}, 2},
		{"the kind 0", kind, 1, [][]int{{}}, 1},
		{"the kind 2", kind.in(api.Env{Kind: 2}), 3, [][]int{{}, {1}, {2}}, 1},
	}
}

func TestClasses(t *testing.T) {
	for _, c := range writtenTests(t) {
		x := c.test
		for _, most := range []int{c.runs, c.runs + 1, api.MaxGraph} {
			l, e := commute.Classes(x.c, x.e, x.left, most)
			if e != api.OK || !slices.EqualFunc(l, c.classes, slices.Equal[[]int]) {
				t.Errorf("P12.7: Classes of %s with most %d: %v, %v; want %v", c.what, most, l, e, c.classes)
			}
			ends, e := commute.Ends(x.c, x.e, x.left, most)
			if e != api.OK || len(ends) != c.ends {
				t.Errorf("P12.8: Ends of %s with most %d: %v, %v; want %d", c.what, most, ends, e, c.ends)
			}
		}
		if c.runs > 1 {
			x.refused(t, c.runs-1, api.ErrLimit)
			x.refused(t, 1, api.ErrLimit)
		}
		x.checkEnds(t, c.classes, c.allRuns(t), count{})
	}
}

func (c written) allRuns(t *testing.T) []toldRun {
	t.Helper()
	l, few := c.test.all(c.runs)
	if !few || len(l) != c.runs {
		t.Fatalf("P12.7: %s has %d runs, not %d", c.what, len(l), c.runs)
	}
	return l
}

// TestEnds: the last states of the example, and of runs that end in one state.
func TestEnds(t *testing.T) {
	x := example(t)
	l, e := commute.Ends(x.c, x.e, x.left, 6)
	if e != api.OK || len(l) != 3 {
		t.Fatalf("P12.8: Ends of the example: %v, %v", l, e)
	}
	for i, want := range []struct {
		a, steps int
		ended    bool
	}{{0, 3, false}, {1, 4, false}, {1, 5, true}} {
		s := l[i]
		if !slices.Equal(s.Vars, []int{want.a, 2}) || s.Cost.Steps != want.steps || s.Outcome != api.Passed || !s.Threads[0].Ended || s.Threads[1].Ended != want.ended {
			t.Errorf("P12.8: the end %d of the example: %+v", i, s)
		}
	}
	drawn := testOf(t, "test t { draw $a 6; if $a == 2 { alloc 1; } check $a < 5; }")
	l, e = commute.Ends(drawn.c, drawn.e, drawn.left, 6)
	if e != api.OK || len(l) != 3 || l[0].Outcome != api.Passed || l[1].Outcome != api.Passed || l[0].Cost.Allocs != 0 || l[1].Cost.Allocs != 1 || l[2].Outcome != api.Failed {
		t.Errorf("P12.8: Ends of a draw: %+v, %v", l, e)
	}
}

func TestErrorsOfClasses(t *testing.T) {
	t.Parallel()
	x := testOf(t, "test t { draw $a 2; }")
	for _, most := range []int{0, -1, api.MaxGraph + 1, math.MaxInt, math.MinInt} {
		x.refused(t, most, api.ErrArg)
		x.in(api.Env{}, make([]api.Cell, 64)...).refused(t, most, api.ErrArg)
		x.in(api.Env{}, make([]api.Cell, 65)...).refused(t, most, api.ErrLimit)
		test{c: code.Code{Instrs: make([]api.Instr, 513)}}.refused(t, most, api.ErrLimit)
		test{c: code.Code{Instrs: []api.Instr{{Op: code.Back}}, Begins: []int{0}, Locals: []int{0}, Names: []string{"t"}}}.refused(t, most, api.ErrForm)
	}
	for _, most := range []int{1, 2, api.MaxGraph} {
		x.in(api.Env{Kind: 4}).refused(t, most, api.ErrArg)
		x.in(api.Env{Fault: -1}).refused(t, most, api.ErrArg)
		x.in(api.Env{Skew: 9}).refused(t, most, api.ErrArg)
		test{}.refused(t, most, api.ErrArg)
	}
	endless := testOf(t, "var x = 0;", "var y = 0;", "proc p { while 1 { x = x + 1; } }", "test t { go p; while 1 { y = y + 1; } }")
	for _, most := range []int{1, 2, 100, api.MaxGraph} {
		endless.refused(t, most, api.ErrLimit) // there are too many runs, if not too many classes
	}
}

// TestManyRuns: a test with as many runs as are allowed, and one with more.
func TestManyRuns(t *testing.T) {
	t.Parallel()
	const draws = "draw $a 4; draw $a 4; draw $a 4; draw $a 4; draw $a 4; draw $a 4; "
	full := testOf(t, "test t { "+draws+"draw $a 4; }")
	l, e := commute.Classes(full.c, full.e, full.left, api.MaxGraph)
	if e != api.OK || len(l) != api.MaxGraph {
		t.Fatalf("P12.7: Classes of 16384 runs: %d, %v", len(l), e)
	}
	for i := range l[1:] {
		if less(l[i], l[i+1]) >= 0 {
			t.Fatalf("P12.7: the words %v and %v stand side by side", l[i], l[i+1])
		}
	}
	if ends, e := commute.Ends(full.c, full.e, full.left, api.MaxGraph); e != api.OK || len(ends) != 1 {
		t.Errorf("P12.8: Ends of 16384 runs: %d, %v", len(ends), e)
	}
	full.refused(t, api.MaxGraph-1, api.ErrLimit)
	testOf(t, "test t { "+draws+"draw $a 5; }").refused(t, api.MaxGraph, api.ErrLimit)
}

// TestErrorsOfRuns: the errors of all functions that play runs, and nothing beside them.
func TestErrorsOfRuns(t *testing.T) {
	x := example(t)
	long := make([]int, api.MaxWord+1)
	for _, c := range []struct {
		what string
		test test
		word []int
		want api.Errno
	}{
		{"no code", test{}, nil, api.ErrArg},
		{"no code, and a long word", test{}, long, api.ErrArg},
		{"a code that is not valid", test{c: code.Code{Instrs: make([]api.Instr, 513)}}, nil, api.ErrLimit},
		{"an environment that is not proper", x.in(api.Env{Kind: 4}), long, api.ErrArg},
		{"an environment with a Fault below 0", x.in(api.Env{Fault: -1}), nil, api.ErrArg},
		{"too many cells", x.in(api.Env{}, make([]api.Cell, 65)...), []int{2}, api.ErrLimit},
		{"a long word", x, long, api.ErrLimit},
		{"a long word of other numbers", x, append([]int{7}, long...), api.ErrLimit},
		{"no such alternative", x, []int{2}, api.ErrRange},
		{"a negative alternative", x, []int{0, -1}, api.ErrRange},
		{"no such alternative, and more than is used", x, []int{0, 2, 0, 0, 1}, api.ErrRange},
		{"more than is used", x, []int{0, 0, 1}, api.ErrMore},
		{"much more than is used", x, []int{0, 0, 0, math.MinInt}, api.ErrMore},
	} {
		if word, is, e := commute.Swap(c.test.c, c.test.e, c.test.left, c.word, -1); e != c.want || is || len(word) != 0 {
			t.Errorf("P12.2: Swap with %s: %v, %v, %v; want %v", c.what, word, is, e, c.want)
		}
		if word, e := commute.Normal(c.test.c, c.test.e, c.test.left, c.word); e != c.want || len(word) != 0 {
			t.Errorf("P12.3: Normal with %s: %v, %v; want %v", c.what, word, e, c.want)
		}
		if len(c.test.c.Instrs) > 0 && c.want != api.ErrArg && len(c.test.left) == 0 {
			c.test.refusedPairs(t, c.what, nil, c.word, c.want)
			c.test.refusedPairs(t, c.what, []int{1}, c.word, c.want)
		}
		c.test.refusedPairs(t, c.what, c.word, nil, c.want)
		c.test.refusedPairs(t, c.what, c.word, c.word, c.want)
	}
	x.refusedPairs(t, "two errors", []int{2}, []int{0, 0, 1}, api.ErrRange)
	x.refusedPairs(t, "two errors", []int{0, 0, 1}, []int{2}, api.ErrMore)
	x.refusedPairs(t, "two errors", long, []int{2}, api.ErrLimit)
}

// refusedPairs expects an error of Alike, Way and Check, and nothing beside it.
func (x test) refusedPairs(t *testing.T, what string, a, b []int, want api.Errno) {
	t.Helper()
	if is, e := commute.Alike(x.c, x.e, x.left, a, b); e != want || is {
		t.Errorf("P12.4: Alike with %s: %v, %v; want %v", what, is, e, want)
	}
	if way, e := commute.Way(x.c, x.e, x.left, a, b); e != want || len(way) != 0 {
		t.Errorf("P12.5: Way with %s: %v, %v; want %v", what, way, e, want)
	}
	for _, way := range [][]int{nil, {0}, {-1}} {
		if e := commute.Check(x.c, x.e, x.left, a, b, way); e != want {
			t.Errorf("P12.6: Check of %v with %s: %v; want %v", way, what, e, want)
		}
	}
}

// TestNoSuchSteps: steps that a run has not.
func TestNoSuchSteps(t *testing.T) {
	none := testOf(t, "test t { check 0; }")
	one := testOf(t, "test t { }")
	three := example(t)
	for _, c := range []struct {
		test  test
		steps int
	}{{none, 0}, {one, 1}, {three, 3}} {
		x := c.test
		for _, i := range []int{-1, c.steps - 1, c.steps, c.steps + 1, math.MaxInt, math.MinInt} {
			if word, is, e := commute.Swap(x.c, x.e, x.left, nil, i); e != api.ErrRange || is || len(word) != 0 {
				t.Errorf("P12.2: Swap at %d of %d steps: %v, %v, %v", i, c.steps, word, is, e)
			}
			if e := commute.Check(x.c, x.e, x.left, nil, nil, []int{i}); e != api.ErrProof {
				t.Errorf("P12.6: Check of the way %d with %d steps: %v", i, c.steps, e)
			}
		}
		for i := range c.steps - 1 {
			if word, is, e := commute.Swap(x.c, x.e, x.left, nil, i); e != api.OK || is || len(word) != 0 {
				t.Errorf("P12.2: Swap at %d of %d steps: %v, %v, %v", i, c.steps, word, is, e)
			}
		}
		if e := commute.Check(x.c, x.e, x.left, nil, nil, nil); e != api.OK {
			t.Errorf("P12.6: Check of no way with %d steps: %v", c.steps, e)
		}
		if word, e := commute.Normal(x.c, x.e, x.left, nil); e != api.OK || len(word) != 0 {
			t.Errorf("P12.3: Normal of %d steps: %v, %v", c.steps, word, e)
		}
		if way, e := commute.Way(x.c, x.e, x.left, nil, []int{0}); e != api.OK || len(way) != 0 {
			t.Errorf("P12.5: Way with %d steps: %v, %v", c.steps, way, e)
		}
	}
}

func TestCheck(t *testing.T) {
	x := example(t)
	for _, c := range []struct {
		what string
		a, b []int
		way  []int
		want api.Errno
	}{
		{"the example", []int{1, 1}, []int{0, 1, 1}, []int{2, 1}, api.OK},
		{"more exchanges", []int{1, 1}, []int{0, 1, 1}, []int{2, 1, 1, 1, 1, 1}, api.OK},
		{"an exchange too many", []int{1, 1}, []int{0, 1, 1}, []int{2, 1, 1}, api.ErrProof},
		{"another order", []int{1, 1}, []int{0, 1, 1}, []int{1, 2}, api.ErrProof},
		{"a part of it", []int{1, 1}, []int{0, 1, 1}, []int{2}, api.ErrProof},
		{"nothing", []int{1, 1}, []int{0, 1, 1}, nil, api.ErrProof},
		{"nothing between the same runs", []int{1, 1}, []int{1, 1, 0}, nil, api.OK},
		{"there and back", []int{1, 1}, []int{1, 1}, []int{2, 2}, api.OK},
		{"there and not back", []int{1, 1}, []int{1, 1}, []int{2}, api.ErrProof},
		{"the last step", []int{1, 1}, []int{0, 1, 1}, []int{2, 1, 3}, api.ErrProof},
		{"no step", []int{1, 1}, []int{0, 1, 1}, []int{2, 1, 4}, api.ErrProof},
		{"a negative number", []int{1, 1}, []int{0, 1, 1}, []int{-1, 2, 1}, api.ErrProof},
		{"the first step", []int{1, 1}, []int{0, 1, 1}, []int{0, 2, 1}, api.ErrProof},
		{"other runs", nil, []int{0, 1}, nil, api.ErrProof},
		{"other runs of as many steps", []int{1}, []int{0, 1}, nil, api.ErrProof},
	} {
		if e := commute.Check(x.c, x.e, x.left, c.a, c.b, c.way); e != c.want {
			t.Errorf("P12.6: Check of %s: %v; want %v", c.what, e, c.want)
		}
	}
	many := make([]int, 1000000)
	for i := range many {
		many[i] = 1
	}
	if e := commute.Check(x.c, x.e, x.left, []int{1}, []int{1}, many); e != api.OK {
		t.Errorf("P12.6: Check of a million exchanges: %v", e)
	}
	if e := commute.Check(x.c, x.e, x.left, []int{1}, []int{1}, many[1:]); e != api.ErrProof {
		t.Errorf("P12.6: Check of one less: %v", e)
	}
	draws := testOf(t, "proc p { draw $a 2; }", "test t { go p; draw $a 2; }")
	if e := commute.Check(draws.c, draws.e, draws.left, []int{1, 1, 0, 0}, []int{0, 1, 1, 0}, []int{1}); e != api.ErrProof {
		t.Errorf("P12.6: Check with the draws exchanged, too: %v", e)
	}
	if is, e := commute.Alike(draws.c, draws.e, draws.left, []int{1, 1, 0, 0}, []int{0, 1, 1, 0}); e != api.OK || is {
		t.Errorf("P12.4: Alike with the draws exchanged, too: %v, %v", is, e)
	}
}
