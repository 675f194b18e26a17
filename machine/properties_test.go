package machine_test

import (
	"slices"
	"strconv"
	"testing"

	"culprit/api"
	"culprit/code"
	"culprit/machine"
)

// compiled returns the code of the test t of texts, by their names.
func compiled(t *testing.T, l ...string) code.Code {
	t.Helper()
	var defs []api.Def
	for i := 0; i < len(l); i += 2 {
		defs = append(defs, api.Def{Name: l[i], Text: l[i+1]})
	}
	c, e := code.Compile(defs, "t")
	if e != api.OK {
		t.Fatal(e)
	}
	return c
}

// TestExample: that of the chapter.
func TestExample(t *testing.T) {
	c := compiled(t, "t", "test t { go p; x = x + 1; check x == 2; }", "p", "proc p { x = x + 1; }", "x", "var x = 0;")
	s, e := machine.Start(c, api.Env{}, nil)
	p, f := machine.Next(c, api.Env{}, s)
	if e != api.OK || f != api.OK || p.Kind != machine.Pick || p.Thread != 0 || !slices.Equal(p.Parts, []int{1}) {
		t.Fatalf("P9.2: the first point: %v", p)
	}
	s, _, _ = machine.Do(c, api.Env{}, s, 0)
	for i, thread := range s.Threads {
		if c.Instrs[thread.Frames[0].PC].Op != code.Get {
			t.Errorf("P9.3: the thread %d stands at %d", i, thread.Frames[0].PC)
		}
	}
	p, _ = machine.Next(c, api.Env{}, s)
	if p.Kind != machine.Pick || p.Thread != -1 || !slices.Equal(p.Parts, []int{1, 1}) {
		t.Errorf("P9.2: the second point: %v", p)
	}
	for s.Outcome == -1 {
		s, _, _ = machine.Do(c, api.Env{}, s, 0)
	}
	if s.Outcome != api.Failed || s.Where != "t" || s.Site != 0 || s.Vars[0] != 1 {
		t.Errorf("P9.3: the end: %s", show(s))
	}
}

// failing returns the measure of all runs from a state on that do not pass. It is exact, as all sums of parts are powers of 2.
func failing(c code.Code, e api.Env, s machine.State) float64 {
	if s.Outcome == api.Passed {
		return 0
	}
	if s.Outcome != -1 {
		return 1
	}
	p, _ := machine.Next(c, e, s)
	whole, sum := 0, 0.0
	for k, part := range p.Parts {
		next, _, _ := machine.Do(c, e, s, k)
		whole += part
		sum += float64(part) * failing(c, e, next)
	}
	return sum / float64(whole)
}

// TestMeasures: how often some tests fail, from all of their runs.
func TestMeasures(t *testing.T) {
	for _, c := range []struct {
		what string
		defs []string
		env  api.Env
		want float64
	}{
		{"two threads add to a variable", []string{"t", "test t { go p; n = n + 1; sleep 9; check n == 2; }", "p", "proc p { n = n + 1; }", "n", "var n = 0;"}, api.Env{}, 1.0 / 2},
		{"they have a lock", []string{"t", "test t { go p; acquire l; n = n + 1; release l; sleep 9; check n == 2; }", "p", "proc p { acquire l; n = n + 1; release l; }", "n", "var n = 0;", "l", "lock l;"}, api.Env{}, 0},
		{"a write is lost", []string{"t", "test t { write f 1; write g 2; read f $a; read g $b; check $a + $b == 3; }", "f", "file f;", "g", "file g;"}, api.Env{Fault: 4}, 7.0 / 16},
		{"the clock jumps", []string{"t", "test t { now $a; now $b; check $b < $a + 2; }"}, api.Env{Skew: 1}, 1.0 / 16},
		{"two draws", []string{"t", "test t { draw $a 4; draw $b 2; check $a < 3; check $b; }"}, api.Env{}, 5.0 / 8},
		{"two threads take two locks", []string{"t", "test t { go p; acquire k; acquire l; release l; release k; }", "p", "proc p { acquire l; acquire k; release k; release l; }", "k", "lock k;", "l", "lock l;"}, api.Env{}, 1.0 / 2},
		{"two threads take two locks, and one of them keeps them", []string{"t", "test t { go p; acquire k; acquire l; release l; release k; }", "p", "proc p { acquire l; acquire k; }", "k", "lock k;", "l", "lock l;"}, api.Env{}, 3.0 / 4},
		{"one of several receives", []string{"t", "test t { go p; go p; sleep 3; send c 1; sleep 3; check x; }", "p", "proc p { recv c $a; x = kind; }", "c", "chan c 0;", "x", "var x = 0;"}, api.Env{Kind: 1}, 0},
	} {
		x := compiled(t, c.defs...)
		s, _ := machine.Start(x, c.env, nil)
		if got := failing(x, c.env, s); got != c.want {
			t.Errorf("P9.3: %s: it fails with the measure %v; want %v", c.what, got, c.want)
		}
	}
}

// TestAlongRuns: all states of runs are valid, with points and next states; costs; and memory.
func TestAlongRuns(t *testing.T) {
	seen := count{}
	runs(t, 4000, func(m *maker, c code.Code, e api.Env, left []api.Cell) {
		s, f := machine.Start(c, e, left)
		if f != api.OK {
			t.Fatal(f)
		}
		alternatives := 0
		for ; s.Outcome == -1; alternatives++ {
			checkState(t, c, s)
			p, f := machine.Next(c, e, s)
			if f != api.OK || len(p.Parts) == 0 {
				t.Errorf("P9.7: no point in %s: %v", show(s), f)
				return
			}
			var next machine.State
			k := m.IntN(len(p.Parts))
			for i := range p.Parts {
				x, l, f := machine.Do(c, e, s, i)
				if f != api.OK {
					t.Errorf("P9.7: no state behind %d in %s: %v", i, show(s), f)
				}
				checkState(t, c, x)
				checkCosts(t, p, s, x)
				checkAccesses(t, c, p, s, x, l, seen)
				if i == k {
					next = x
				}
			}
			s = next
		}
		checkState(t, c, s)
		if alternatives > 128 || s.Cost.Steps > 64 {
			t.Errorf("P9.8: %d alternatives and %d steps", alternatives, s.Cost.Steps)
		}
		seen.state(s)
	})
	seen.check(t, 100, "outcome 0", "outcome 1", "outcome 2", "outcome 3", "outcome 4", "vars", "queues", "owners", "files")
}

func checkState(t *testing.T, c code.Code, s machine.State) {
	t.Helper()
	if e := machine.Valid(c, s); e != api.OK {
		t.Errorf("P9.7: a state of a run: %v of %s", e, show(s))
	}
	if s.Cost.Steps+s.Fuel != 64 || s.Clock < s.Cost.Steps {
		t.Errorf("P9.8: a state of a run: %s", show(s))
	}
}

func checkCosts(t *testing.T, p machine.Point, s, next machine.State) {
	t.Helper()
	if next.Clock < s.Clock || next.Cost.Allocs < s.Cost.Allocs || next.Cost.Waits < s.Cost.Waits {
		t.Errorf("P9.8: a number falls from\n%s to\n%s", show(s), show(next))
	}
	steps := next.Cost.Steps - s.Cost.Steps
	if p.Thread == -1 && steps != 0 || p.Thread != -1 && steps != 1 && (steps != 0 || next.Outcome != api.Broken) {
		t.Errorf("P9.8: %d steps from\n%s to\n%s", steps, show(s), show(next))
	}
}

// checkAccesses examines whether a step changes only what its accesses name with a change.
func checkAccesses(t *testing.T, c code.Code, p machine.Point, s, next machine.State, l []machine.Access, seen count) {
	t.Helper()
	if (p.Thread == -1) != (len(l) == 0) {
		t.Errorf("P9.3: the accesses %s at %v", showAccesses(l), p)
	}
	for i, x := range l {
		if i > 0 && (x.Kind < l[i-1].Kind || x.Kind == l[i-1].Kind && x.Obj <= l[i-1].Obj) {
			t.Errorf("P9.3: the accesses %s have no order", showAccesses(l))
		}
	}
	may := func(kind, obj int) bool {
		return slices.Contains(l, machine.Access{Kind: kind, Obj: obj, Change: true})
	}
	changed := func(name string, kind, obj int, differs bool) {
		if differs {
			seen[name]++
		}
		if differs && !may(kind, obj) {
			t.Errorf("P9.9: %s %d change with the accesses %s, from\n%s to\n%s", name, obj, showAccesses(l), show(s), show(next))
		}
	}
	for i := range c.Vars {
		changed("vars", machine.OnVar, i, s.Vars[i] != next.Vars[i])
	}
	for i := range c.Chans {
		changed("queues", machine.OnChan, i, !slices.Equal(s.Queues[i], next.Queues[i]))
	}
	for i := range c.Locks {
		changed("owners", machine.OnLock, i, s.Owners[i] != next.Owners[i])
	}
	for i := range c.Files {
		changed("files", machine.OnFile, i, s.Files[i] != next.Files[i])
	}
}

// TestLongestRun: a run ends after 64 steps, with at most two alternatives for each.
func TestLongestRun(t *testing.T) {
	p := assemble("vars x; p 0:; @p push 1; put x; jump @p; back; t 0:; go p; @t push 2; put x; jump @t; end")
	s, _ := machine.Start(p.Code, api.Env{}, nil)
	n := 0
	for ; s.Outcome == -1; n++ {
		k := 0
		if s.Picked == -1 && n > 0 {
			k = n / 2 % 2
		}
		s, _, _ = machine.Do(p.Code, api.Env{}, s, k)
	}
	if n != 127 || s.Outcome != api.Late || s.Cost.Steps != 64 || s.Fuel != 0 || s.Where != "t" || s.Site != 2 {
		t.Errorf("P9.8: %d alternatives, then %s", n, show(s))
	}
}

// TestOtherValues: values that the accesses of a step do not name change neither these nor the point behind it.
func TestOtherValues(t *testing.T) {
	seen := count{}
	runs(t, 4000, func(m *maker, c code.Code, e api.Env, left []api.Cell) {
		s, _ := machine.Start(c, e, left)
		for s.Outcome == -1 {
			p, _ := machine.Next(c, e, s)
			k := m.IntN(len(p.Parts))
			next, l, _ := machine.Do(c, e, s, k)
			other := copyState(s)
			m.otherValues(other.Vars, machine.OnVar, l)
			m.otherValues(other.Files, machine.OnFile, l)
			otherNext, otherAccesses, f := machine.Do(c, e, other, k)
			if f != api.OK || !slices.Equal(l, otherAccesses) || next.Outcome != otherNext.Outcome {
				t.Errorf("P9.9: the accesses %s and %s of %d in\n%s and\n%s: %v", showAccesses(l), showAccesses(otherAccesses), k, show(s), show(other), f)
			}
			if next.Outcome == -1 {
				seen["points"]++
				a, _ := machine.Next(c, e, next)
				b, f := machine.Next(c, e, otherNext)
				if f != api.OK || a.Kind != b.Kind || a.Thread != b.Thread || a.PC != b.PC || !slices.Equal(a.Parts, b.Parts) {
					t.Errorf("P9.9: the points %v and %v: %v behind %d in\n%s and\n%s", a, b, f, k, show(s), show(other))
				}
			}
			s = next
		}
	})
	seen.check(t, 10000, "points")
}

// otherValues changes all values of a list that accesses do not name.
func (m *maker) otherValues(list []int, kind int, l []machine.Access) {
	for i := range list {
		if !slices.ContainsFunc(l, func(x machine.Access) bool { return x.Kind == kind && x.Obj == i }) {
			list[i] += 1 + m.IntN(5)
		}
	}
}

// TestMemoryIsNew: what is returned shares no memory with arguments, nor with what else is returned.
func TestMemoryIsNew(t *testing.T) {
	runs(t, 500, func(m *maker, c code.Code, e api.Env, left []api.Cell) {
		first, _ := machine.Start(c, e, left)
		codeBefore, leftBefore := show(first), slices.Clone(left)
		scribble(first)
		s, _ := machine.Start(c, e, left)
		if show(s) != codeBefore || !slices.Equal(left, leftBefore) {
			t.Errorf("P9.1: Start: a result shares memory with an argument")
		}
		for s.Outcome == -1 {
			before, codeNow := show(s), copyCode(c)
			p, _ := machine.Next(c, e, s)
			n := len(p.Parts)
			clear(p.Parts[:cap(p.Parts)])
			able := machine.Enabled(c, s)
			clear(able[:cap(able)])
			cells := machine.Left(c, s)
			clear(cells[:cap(cells)])
			for k := range n {
				x, l, _ := machine.Do(c, e, s, k)
				scribble(x)
				clear(l[:cap(l)])
			}
			if show(s) != before || !code.Same(c, codeNow) {
				t.Errorf("P9.3: a result shares memory with an argument: %s", before)
			}
			k := m.IntN(n)
			next, _, _ := machine.Do(c, e, s, k)
			want := show(next)
			again, _, _ := machine.Do(c, e, s, k)
			scribble(s)
			scribble(again)
			if show(next) != want {
				t.Errorf("P9.3: a result shares memory with an argument or another result: %s", before)
			}
			s = next
		}
	})
}

// scribble overwrites all memory of a state, also that behind the ends of lists. If two lists of the state share memory, it panics.
func scribble(s machine.State) {
	seen := map[*int]bool{}
	overwrite := func(l []int) {
		l = l[:cap(l)]
		for i := range l {
			if seen[&l[i]] {
				panic("two lists of a state share memory")
			}
			seen[&l[i]] = true
			l[i] = -777
		}
	}
	for _, t := range s.Threads {
		overwrite(t.Stack)
		for i := range t.Frames {
			overwrite(t.Frames[i].Locals)
		}
		clear(t.Frames[:cap(t.Frames)])
	}
	for _, q := range s.Queues {
		overwrite(q)
	}
	overwrite(s.Vars)
	overwrite(s.Owners)
	overwrite(s.Files)
	clear(s.Threads[:cap(s.Threads)])
	clear(s.Queues[:cap(s.Queues)])
}

// TestAgain: equal calls have equal results, also one after many others.
func TestAgain(t *testing.T) {
	play := func(seed uint64) string {
		m := newMaker(seed)
		c, e, left := m.code(), m.env(), m.left()
		s, _ := machine.Start(c, e, left)
		text := ""
		for s.Outcome == -1 {
			p, _ := machine.Next(c, e, s)
			next, l, _ := machine.Do(c, e, s, m.IntN(len(p.Parts)))
			text += show(next) + showAccesses(l) + strconv.Itoa(p.Kind)
			s = next
		}
		return text
	}
	var first []string
	for seed := range uint64(200) {
		first = append(first, play(seed))
	}
	for seed := range uint64(200) {
		if play(seed) != first[seed] {
			t.Errorf("the run %d differs when it is played again", seed)
		}
	}
}
