package race_test

import (
	"fmt"
	"math/rand/v2"
	"slices"
	"strings"
	"testing"

	"culprit/api"
	"culprit/code"
	"culprit/commute"
	"culprit/machine"
	"culprit/race"
)

// A test is what has runs.
type test struct {
	c    code.Code
	e    api.Env
	left []api.Cell
}

func (x test) in(e api.Env, left ...api.Cell) test { return test{x.c, e, left} }

// testOf returns the test t of some texts.
func testOf(t *testing.T, texts ...string) test {
	t.Helper()
	var l []api.Def
	for _, text := range texts {
		l = append(l, api.Def{Name: strings.Fields(text)[1], Text: text})
	}
	c, e := code.Compile(l, "t")
	if e != api.OK {
		t.Fatal(e, texts)
	}
	return test{c: c}
}

// A maker makes tests by chance.
type maker struct{ *rand.Rand }

func newMaker(seed uint64) maker { return maker{rand.New(rand.NewPCG(13, seed))} }

func (m maker) one(l ...string) string { return l[m.IntN(len(l))] }

var (
	onVars = []string{
		"x = 1;", "x = 2;", "y = 2;", "y = 3;", "$a = x;", "$b = y;", "x = x + 1;", "y = x;", "x = $a;", "z.n = 1;", "$a = z.n;",
		"check x < 3;", "check y < 2;", "if x < 2 { y = 4; }", "if y { x = 5; } else { x = 6; }", "if x { y = 1; } else { draw $a 2; }", "while $a { $a = $a - 1; x = $a; }",
	}
	others = []string{
		"draw $a 2;", "draw $b 3;", "alloc 3;", "send c 1;", "recv c $a;", "send d 1;", "recv d $a;", "send e 2;", "recv e $b;",
		"acquire k; x = 3; release k;", "acquire l; y = 3; release l;", "acquire k; release k;", "acquire l;", "release k;",
		"write f $a;", "read f $a;", "read f $b;", "write g 2;", "read g $b;", "now $a;", "sleep 1;", "sleep 3;",
		"check $a < 2;", "call r;", "go r;", "if y { recv d $a; }",
	}
)

// statements returns up to n statements.
func (m maker) statements(n int) string {
	text := ""
	for range m.IntN(n + 1) {
		if m.IntN(2) == 0 {
			text += m.one(onVars...) + " "
		} else {
			text += m.one(others...) + " "
		}
	}
	return text
}

// texts returns the texts of a test in which threads make up to n statements each.
func (m maker) texts(n int) []string {
	begin, receive := m.one("go p; ", "go p; go q; ", "go q; go p; ", "go p; go p; ", "go r; go q; "), m.one("", "x = 5;", "recv d $a;", "send c 2;", "draw $a 2;", "acquire l;", "x = 6; read f $a; y = $a;")
	if n < 4 {
		begin = "go p; "
	}
	if m.IntN(6) == 0 {
		begin, receive = "go r; go r; "+m.one("", "go p; ", "go q; ", "x = 1; ")+"send d 1; ", m.one("", "x = 7; ", "if y < 2 { x = 8; } ")+"recv d $a; "+m.one("", "y = $a;", "draw $b 2;")
	}
	return []string{
		"var x = 0;", "var y = 0;", "rec z { n = 1; }", "chan c 1;", "chan d 0;", "chan e 2;", "lock k ;", "lock l ;", "file f ;", "file g ;",
		"proc p { " + m.statements(n) + m.one("", "", "", "go q; ") + m.statements(n/2) + "}",
		"proc q { " + m.statements(n) + "}",
		"proc r { " + receive + " }",
		"test t { " + begin + m.statements(n) + m.one("", "", "x = 9;", "check x < 2;", "check 0;", "release k;", "while 1 { x = 1; }", "recv d $a;", "sleep 9;", "sleep 9; y = 9;") + " }",
	}
}

// test returns a test in which threads make up to n statements each.
func (m maker) test(t *testing.T, n int) test {
	x := testOf(t, m.texts(n)...)
	x.e = api.Env{Kind: m.IntN(4), Fault: m.IntN(2) * m.IntN(9), Skew: m.IntN(9)}
	for range m.IntN(3) {
		x.left = append(x.left, api.Cell{Name: m.one("x", "y", "f", "c"), N: m.IntN(4)})
	}
	return x
}

// tests calls f for tests by chance, in which threads make up to n statements each.
func tests(t *testing.T, seeds, n int, f func(m maker, x test)) {
	t.Helper()
	for seed := range uint64(seeds) {
		m := newMaker(seed)
		f(m, m.test(t, n))
		if t.Failed() {
			t.Fatal("the seed is", seed)
		}
	}
}

// A toldStep is a step of a run with all that the chapter says of it, and the state ahead of it.
type toldStep struct {
	thread, pc, alternative int
	instr                   api.Instr
	accesses                []machine.Access
	ahead                   machine.State
}

// A toldRun has a number in its word for each choice.
type toldRun struct {
	word  []int
	steps []toldStep
	last  machine.State
}

func (r toldRun) threads() []int {
	var l []int
	for _, x := range r.steps {
		l = append(l, x.thread)
	}
	return l
}

func (x test) begin() toldRun {
	s, e := machine.Start(x.c, x.e, x.left)
	if e != api.OK {
		panic(e)
	}
	return toldRun{last: s}
}

// onward returns the run that goes on with the alternative k.
func (x test) onward(r toldRun, k int) toldRun {
	p, _ := machine.Next(x.c, x.e, r.last)
	behind, l, e := machine.Do(x.c, x.e, r.last, k)
	if e != api.OK {
		panic(e)
	}
	word, steps := slices.Clone(r.word), slices.Clone(r.steps)
	if len(p.Parts) > 1 {
		word = append(word, k)
	}
	if p.Thread >= 0 {
		steps = append(steps, toldStep{p.Thread, p.PC, k, x.c.Instrs[p.PC], l, r.last})
	}
	return toldRun{word, steps, behind}
}

// run returns the run for which choose says the alternatives where there are several ones.
func (x test) run(choose func(n int) int) toldRun {
	r := x.begin()
	for r.last.Outcome == -1 {
		p, _ := machine.Next(x.c, x.e, r.last)
		k := 0
		if len(p.Parts) > 1 {
			k = choose(len(p.Parts))
		}
		r = x.onward(r, k)
	}
	return r
}

// tell returns the run by a word.
func (x test) tell(word []int) toldRun {
	return x.run(func(int) int {
		if len(word) == 0 {
			return 0
		}
		k := word[0]
		word = word[1:]
		return k
	})
}

// all returns all runs; false, if there are more than most.
func (x test) all(most int) ([]toldRun, bool) {
	var l []toldRun
	var walk func(r toldRun)
	walk = func(r toldRun) {
		if len(l) > most {
			return
		}
		if r.last.Outcome != -1 {
			l = append(l, r)
			return
		}
		p, _ := machine.Next(x.c, x.e, r.last)
		for k := range p.Parts {
			walk(x.onward(r, k))
		}
	}
	walk(x.begin())
	return l, len(l) <= most
}

func (s toldStep) moves(t int) bool {
	return slices.Contains(s.accesses, machine.Access{Kind: machine.OnThreads, Obj: 1 + t, Change: true})
}

// others returns the threads that a step moves beside its own one.
func (s toldStep) others() []int {
	var l []int
	for t := range api.MaxFuel + 1 {
		if t != s.thread && s.moves(t) {
			l = append(l, t)
		}
	}
	return l
}

func (s toldStep) does(a int, ops ...int) bool {
	return slices.Contains(ops, s.instr.Op) && s.instr.A == a
}

// refBound reports by the words of the chapter whether two steps are bound.
func refBound(a, b toldStep) bool {
	for _, access := range a.accesses {
		if t := access.Obj - 1; access.Kind == machine.OnThreads && t >= 0 && a.moves(t) && b.moves(t) {
			return true
		}
	}
	for n := range 4 {
		for _, ops := range [][]int{{code.Acquire, code.Release}, {code.Send, code.Recv}} {
			if a.does(n, ops...) && b.does(n, ops...) {
				return true
			}
		}
		if a.does(n, code.Write) && b.does(n, code.Read, code.Write) || a.does(n, code.Read) && b.does(n, code.Write) {
			return true
		}
	}
	return false
}

// refBefore returns for the steps of a run, by the words of the chapter, whether the step i is before the step k.
func refBefore(l []toldStep) [][]bool {
	before := make([][]bool, len(l))
	for i := range l {
		before[i] = make([]bool, len(l))
	}
	for k := range l {
		for i := k - 1; i >= 0; i-- {
			before[i][k] = refBound(l[i], l[k])
			for j := i + 1; j < k; j++ {
				before[i][k] = before[i][k] || before[i][j] && before[j][k]
			}
		}
	}
	return before
}

// refClocks returns the clocks of a run, by the words of the chapter.
func refClocks(r toldRun) [][]int {
	before := refBefore(r.steps)
	var clocks [][]int
	for k := range r.steps {
		clock := make([]int, len(r.last.Threads))
		for i, x := range r.steps {
			if i == k || before[i][k] {
				clock[x.thread]++
			}
		}
		clocks = append(clocks, clock)
	}
	return clocks
}

// refRaces returns the races of a run, by the words of the chapter.
func refRaces(c code.Code, r toldRun) []race.Race {
	before := refBefore(r.steps)
	var l []race.Race
	for i, x := range r.steps {
		for k, y := range r.steps {
			if i >= k || before[i][k] {
				continue
			}
			for n, v := range c.Vars {
				if x.does(n, code.Put) && y.does(n, code.Get, code.Put) || x.does(n, code.Get) && y.does(n, code.Put) {
					l = append(l, race.Race{First: i, Second: k, Var: v.Name, Wheres: [2]string{nameAt(c, x.pc), nameAt(c, y.pc)}, PCs: [2]int{x.pc, y.pc}})
				}
			}
		}
	}
	return l
}

// nameAt returns the name of the procedure of an instruction.
func nameAt(c code.Code, pc int) string {
	name := ""
	for p, begin := range c.Begins {
		if begin <= pc {
			name = c.Names[p]
		}
	}
	return name
}

// refSame reports by the words of the chapter whether b is the same step as a.
func refSame(a, b toldStep) bool {
	same := a.thread == b.thread && a.pc == b.pc
	switch a.instr.Op {
	case code.Draw, code.Now, code.Write:
		same = same && a.alternative == b.alternative
	case code.Send:
		same = same && (len(a.others()) == 0 || slices.Equal(a.others(), b.others()))
	}
	return same
}

// refSteps returns the steps with which a race is turned, and how many of them are ahead of its first step.
func refSteps(r toldRun, x race.Race) ([]toldStep, int) {
	before := refBefore(r.steps)
	l := slices.Clone(r.steps[:x.First])
	for k := x.First + 1; k <= x.Second; k++ {
		if !before[x.First][k] {
			l = append(l, r.steps[k])
		}
	}
	return l, x.First
}

// refTurn returns the run in which a race is turned, by the words of the chapter, or why there is none.
func (x test) refTurn(r toldRun, of race.Race) (toldRun, string) {
	steps, _ := refSteps(r, of)
	n := x.begin()
	for _, want := range steps {
		next, why := x.refRepeat(n, want)
		if why != "" {
			return toldRun{}, why
		}
		n = next
	}
	for n.last.Outcome == -1 {
		n = x.onward(n, 0)
	}
	return n, ""
}

// refRepeat makes the same step as another one: of all that can be done it takes what makes this step.
func (x test) refRepeat(r toldRun, want toldStep) (toldRun, string) {
	if r.last.Outcome != -1 {
		return toldRun{}, "over"
	}
	if !slices.Contains(machine.Enabled(x.c, r.last), want.thread) {
		return toldRun{}, "not enabled"
	}
	p, _ := machine.Next(x.c, x.e, r.last)
	for k := 0; p.Thread == -1 && k < len(p.Parts); k++ {
		if picked := x.onward(r, k); picked.last.Picked == want.thread {
			r = picked
			break
		}
	}
	p, _ = machine.Next(x.c, x.e, r.last)
	for k := range p.Parts {
		if n := x.onward(r, k); refSame(want, n.steps[len(n.steps)-1]) {
			return n, ""
		}
	}
	if p.PC != want.pc {
		return toldRun{}, "another instruction"
	}
	return toldRun{}, "no such alternative"
}

// places returns a race without the numbers of its steps.
func places(r race.Race) race.Race {
	r.First, r.Second = 0, 0
	return r
}

// refPairs returns what Pairs returns for a test with at most this many runs.
func (x test) refPairs(t *testing.T, most int) []race.Race {
	t.Helper()
	words, e := commute.Classes(x.c, x.e, x.left, most)
	if e != api.OK {
		t.Fatal(e)
	}
	var l []race.Race
	for _, word := range words {
		for _, r := range refRaces(x.c, x.tell(word)) {
			if !slices.ContainsFunc(l, func(other race.Race) bool { return places(other) == places(r) }) {
				l = append(l, r)
			}
		}
	}
	return l
}

// trimmed returns a word without the noughts at its end.
func trimmed(word []int) []int {
	for len(word) > 0 && word[len(word)-1] == 0 {
		word = word[:len(word)-1]
	}
	return word
}

func sameLists(a, b [][]int) bool { return slices.EqualFunc(a, b, slices.Equal[[]int]) }

// A count tells how often something was seen, so that a test is known to look at everything.
type count map[string]int

func (n count) check(t *testing.T, least int, names ...string) {
	t.Helper()
	for _, name := range names {
		if n[name] < least {
			t.Errorf("the test has seen only %d times: %s", n[name], name)
		}
	}
}

func (r toldRun) String() string {
	var b strings.Builder
	for i, x := range r.steps {
		fmt.Fprintf(&b, "%d: %d@%d.%d ", i, x.thread, x.pc, x.alternative)
	}
	return b.String()
}
