package commute_test

import (
	"fmt"
	"math/rand/v2"
	"slices"
	"strings"
	"testing"

	"culprit/api"
	"culprit/code"
	"culprit/machine"
	"culprit/play"
)

// A test is what has runs.
type test struct {
	c    code.Code
	e    api.Env
	left []api.Cell
}

// testOf returns the test t of some texts.
func testOf(t *testing.T, texts ...string) test {
	t.Helper()
	var l []api.Def
	for _, text := range texts {
		l = append(l, api.Def{Name: strings.Fields(text)[1], Text: text})
	}
	c, e := code.Compile(l, "t")
	if e != api.OK {
		t.Fatal(e, texts)
	}
	return test{c: c}
}

// A maker makes tests by chance.
type maker struct{ *rand.Rand }

func newMaker(seed uint64) maker { return maker{rand.New(rand.NewPCG(12, seed))} }

func (m maker) one(l ...string) string { return l[m.IntN(len(l))] }

func (m maker) some(n int, l ...string) string {
	var b strings.Builder
	for range n {
		b.WriteString(m.one(l...) + " ")
	}
	return b.String()
}

var statements = []string{
	"x = 1;", "y = 2;", "$a = x;", "$b = y;", "x = x + 1;", "x = $a;", "draw $a 2;", "draw $b 3;", "alloc 3;", "$a = $a + 1;",
	"send c 1;", "recv c $a;", "send d 1;", "recv d $a;", "send e 2;", "recv e $b;",
	"acquire k; release k;", "acquire l; y = 3; release l;", "acquire l;", "release k;",
	"write f $a;", "read f $a;", "write g 2;", "read g $b;", "now $a;", "now $b;", "sleep 1;", "sleep 3;",
	"check $a < 2;", "check x < 2;", "call r;", "go r;", "if x { y = 4; } else { draw $a 2; }", "while $a { $a = $a - 1; x = $a; }",
}

// texts returns the texts of a test in which threads make up to n statements each.
func (m maker) texts(n int) []string {
	begin, receive := m.some(1+m.IntN(2), "go p;", "go q;", "go r;"), m.one("", "x = 5;", "recv d $a;", "send c 2;", "draw $a 2;", "acquire l;")
	if m.IntN(5) == 0 {
		begin, receive = "go r; go r; "+m.some(m.IntN(2), "go p;")+"send d 1; ", "recv d $a; "+m.one("", "y = $a;", "draw $b 2;")
	}
	return []string{
		"var x = 0;", "var y = 0;", "chan c 1;", "chan d 0;", "chan e 2;", "lock k ;", "lock l ;", "file f ;", "file g ;",
		"proc p { " + m.some(m.IntN(n+1), statements...) + "}",
		"proc q { " + m.some(m.IntN(n+1), statements...) + "}",
		"proc r { " + receive + " }",
		"test t { " + begin + m.some(m.IntN(n+1), statements...) + m.end() + " }",
	}
}

// end returns the last statement of a test.
func (m maker) end() string {
	if m.IntN(20) == 0 {
		return "while 1 { x = 1; }"
	}
	return m.one("", "", "check x < 2;", "check $a < 1;", "check 0;", "release k;", "while 1 { }", "recv d $a;", "send d 3;")
}

func (m maker) env() api.Env {
	return api.Env{Kind: m.IntN(4), Fault: m.IntN(2) * m.IntN(9), Skew: m.IntN(9)}
}

func (m maker) left() []api.Cell {
	var l []api.Cell
	for range m.IntN(3) {
		l = append(l, api.Cell{Name: m.one("x", "y", "f", "c"), N: m.IntN(4)})
	}
	return l
}

// test returns a test in which threads make up to n statements each.
func (m maker) test(t *testing.T, n int) test {
	x := testOf(t, m.texts(n)...)
	x.e, x.left = m.env(), m.left()
	return x
}

// word returns the word of a run.
func (m maker) word(x test) []int {
	var word []int
	s, _ := machine.Start(x.c, x.e, x.left)
	for s.Outcome == -1 {
		p, _ := machine.Next(x.c, x.e, s)
		k := m.IntN(len(p.Parts))
		if len(p.Parts) > 1 {
			word = append(word, k)
		}
		s, _, _ = machine.Do(x.c, x.e, s, k)
	}
	return word
}

// A told step is one of a run, with all that the chapter says of it.
type toldStep struct {
	thread, alternative int
	accesses            []machine.Access
}

// A told run has a number in its word for each choice; its states are those in which no thread is picked.
type toldRun struct {
	word   []int
	steps  []toldStep
	states []machine.State
}

func (r toldRun) last() machine.State { return r.states[len(r.states)-1] }

// onward returns the run that goes on with the alternative k at the point p.
func (x test) onward(r toldRun, s machine.State, p machine.Point, k int) (toldRun, machine.State) {
	behind, l, e := machine.Do(x.c, x.e, s, k)
	if e != api.OK {
		panic(e)
	}
	r = toldRun{slices.Clip(r.word), slices.Clip(r.steps), slices.Clip(r.states)}
	if len(p.Parts) > 1 {
		r.word = append(r.word, k)
	}
	if p.Thread >= 0 {
		r.steps = append(r.steps, toldStep{p.Thread, k, l})
	}
	if behind.Picked == -1 {
		r.states = append(r.states, behind)
	}
	return r, behind
}

func (x test) begin() (toldRun, machine.State) {
	s, e := machine.Start(x.c, x.e, x.left)
	if e != api.OK {
		panic(e)
	}
	return toldRun{states: []machine.State{s}}, s
}

// tell returns the run by a word.
func (x test) tell(word []int) toldRun {
	r, s := x.begin()
	for s.Outcome == -1 {
		p, _ := machine.Next(x.c, x.e, s)
		k := 0
		if len(p.Parts) > 1 && len(word) > 0 {
			k, word = word[0], word[1:]
		}
		r, s = x.onward(r, s, p, k)
	}
	return r
}

// inOrder returns the run in which threads make steps in an order; false, if there is none.
func (x test) inOrder(steps []toldStep) (toldRun, bool) {
	r, s := x.begin()
	for _, want := range steps {
		p, _ := machine.Next(x.c, x.e, s)
		for k := 0; p.Thread == -1 && k < len(p.Parts); k++ {
			picked, _, _ := machine.Do(x.c, x.e, s, k)
			if picked.Picked == want.thread {
				r, s = x.onward(r, s, p, k)
				p, _ = machine.Next(x.c, x.e, s)
			}
		}
		if p.Thread != want.thread || want.alternative >= len(p.Parts) {
			return toldRun{}, false
		}
		r, s = x.onward(r, s, p, want.alternative)
	}
	return r, s.Outcome != -1
}

// all returns all runs; false, if there are more than most.
func (x test) all(most int) ([]toldRun, bool) {
	var l []toldRun
	var run func(r toldRun, s machine.State)
	run = func(r toldRun, s machine.State) {
		if len(l) > most {
			return
		}
		if s.Outcome != -1 {
			l = append(l, r)
			return
		}
		p, _ := machine.Next(x.c, x.e, s)
		for k := range p.Parts {
			run(x.onward(r, s, p, k))
		}
	}
	run(x.begin())
	return l, len(l) <= most
}

// key returns the steps of a run as a string.
func key(l []toldStep) string {
	var b strings.Builder
	for _, x := range l {
		fmt.Fprintf(&b, "%d.%d ", x.thread, x.alternative)
	}
	return b.String()
}

// refApart does by the words of the chapter what Apart does.
func refApart(a, b []machine.Access) bool {
	for _, x := range slices.Concat(a, b) {
		if x.Kind == machine.OnClock {
			return false
		}
	}
	for _, x := range a {
		for _, y := range b {
			if x.Kind == y.Kind && x.Obj == y.Obj && (x.Change || y.Change) {
				return false
			}
		}
	}
	return true
}

func refStepsApart(x, y toldStep) bool {
	return x.thread != y.thread && refApart(x.accesses, y.accesses)
}

// refExchange returns the steps of a run with two of them exchanged, if they can be.
func refExchange(l []toldStep, i int) ([]toldStep, bool) {
	last := len(l) - 1
	if i < 0 || i >= last || i+1 == last || !refStepsApart(l[i], l[i+1]) {
		return l, false
	}
	l = slices.Clone(l)
	l[i], l[i+1] = l[i+1], l[i]
	return l, true
}

// refNormal returns the steps of the normal run, by the words of the chapter.
func refNormal(l []toldStep) []toldStep {
	there := make([]bool, len(l))
	var order []toldStep
	for len(order) < len(l)-1 {
		next := -1
		for i, x := range l[:len(l)-1] {
			free := !there[i]
			for j := range i {
				free = free && (there[j] || refStepsApart(l[j], x))
			}
			if free && (next == -1 || x.thread < l[next].thread) {
				next = i
			}
		}
		there[next] = true
		order = append(order, l[next])
	}
	return append(order, l[len(order):]...)
}

// names returns for each step the number of its thread, and how many steps of this are ahead.
func names(l []toldStep) [][2]int {
	ahead := map[int]int{}
	var names [][2]int
	for _, x := range l {
		names = append(names, [2]int{x.thread, ahead[x.thread]})
		ahead[x.thread]++
	}
	return names
}

// refWay returns what Way returns for runs that are alike.
func refWay(a, b []toldStep) []int {
	var way []int
	l := names(a)
	for k, name := range names(b) {
		for i := slices.Index(l, name) - 1; i >= k; i-- {
			l[i], l[i+1] = l[i+1], l[i]
			way = append(way, i)
		}
	}
	return way
}

// disorder returns how many pairs of steps stand in another order in two runs.
func disorder(a, b []toldStep) int {
	n, l, other := 0, names(a), names(b)
	for i := range l {
		for j := range i {
			if slices.Index(other, l[j]) > slices.Index(other, l[i]) {
				n++
			}
		}
	}
	return n
}

// refCheck does by the words of the chapter what Check does for two runs.
func refCheck(a, b []toldStep, way []int) api.Errno {
	for _, i := range way {
		l, is := refExchange(a, i)
		if !is {
			return api.ErrProof
		}
		a = l
	}
	if key(a) != key(b) {
		return api.ErrProof
	}
	return api.OK
}

// trimmed returns a word without the noughts at its end, and never nil.
func trimmed(word []int) []int { return append([]int{}, play.Trim(word)...) }

// less orders words that are trimmed.
func less(a, b []int) int {
	if len(a) != len(b) {
		return len(a) - len(b)
	}
	return slices.Compare(a, b)
}

func show(s machine.State) string { return fmt.Sprintf("%+v", s) }

// A count tells how often something was seen, so that a test is known to look at everything.
type count map[string]int

func (n count) check(t *testing.T, least int, names ...string) {
	t.Helper()
	for _, name := range names {
		if n[name] < least {
			t.Errorf("the test has seen only %d times: %s", n[name], name)
		}
	}
}

var (
	kinds    = strings.Fields("pick draw deliver jump lose")
	outcomes = strings.Fields("passed failed stuck late broken")
)

// run counts the choices of a run, and how it ended.
func (n count) run(t *testing.T, x test, word []int) {
	t.Helper()
	r, e := play.Play(x.c, x.e, x.left, word)
	if e != api.OK {
		t.Fatal(e, word)
	}
	n[outcomes[r.Result.Outcome]]++
	for _, m := range r.Moves {
		n[kinds[m.Point.Kind]]++
	}
}

func (x test) mustInOrder(t *testing.T, steps []toldStep) toldRun {
	r, is := x.inOrder(steps)
	if !is {
		t.Fatal(key(steps))
	}
	return r
}
