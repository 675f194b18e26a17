package cause_test

import (
	"fmt"
	"math/rand/v2"
	"slices"
	"strings"
	"testing"

	"culprit/api"
	"culprit/cause"
	"culprit/code"
	"culprit/machine"
	"culprit/play"
	"culprit/shrink"
)

const maxChoices = 20 // of a run by chance

// A test is what has runs.
type test struct {
	c    code.Code
	e    api.Env
	left []api.Cell
}

func (x test) in(e api.Env, left ...api.Cell) test { return test{x.c, e, left} }

// defsOf returns definitions with these texts.
func defsOf(texts ...string) []api.Def {
	var l []api.Def
	for _, text := range texts {
		l = append(l, api.Def{Name: strings.Fields(text)[1], Text: text})
	}
	return l
}

// testOf returns the test t of some texts.
func testOf(t *testing.T, texts ...string) test {
	t.Helper()
	c, e := code.Compile(defsOf(texts...), "t")
	if e != api.OK {
		t.Fatal(e, texts)
	}
	return test{c: c}
}

// A maker makes tests by chance.
type maker struct{ *rand.Rand }

func newMaker(seed uint64) maker { return maker{rand.New(rand.NewPCG(15, seed))} }

func (m maker) one(l ...string) string { return l[m.IntN(len(l))] }

// some returns up to n of the texts.
func (m maker) some(n int, l ...string) string {
	text := ""
	for range m.IntN(n + 1) {
		text += m.one(l...) + " "
	}
	return text
}

// texts returns the texts of a test that looks at what it finds and at what is chosen.
func (m maker) texts() []string {
	steps := []string{
		"draw $a 2;", "draw $a 3;", "draw $b 4;", "now $b;", "write f 2;", "read f $b;", "x = x + 1;", "x = x + $a;", "r.n = $b;", "$b = r.n + $a;", "$a = x;", "sleep 1;", "acquire k; x = x + 1; release k;",
		"if $a { draw $b 3; }", "if $a == 1 { draw $a 2; } else { draw $b 2; }", "if x { draw $a 2; }", "if $b { now $a; }", "if $b == 3 { release k; }", "if $a { recv d $b; }", "send c 1;", "recv c $a;", "alloc 2;",
	}
	checks := []string{
		"check $a < 2;", "check $a * $b < 2;", "check x < 2;", "check x + $a < 3;", "check x == r.n;", "check r.n + $b < 4;", "check $b - 2;", "check x;",
		"write f 2; read f $b; check $b == 2;", "write f 3; read f $b; check $b;", "now $b; check $b < 2;", "now $b; check $b < 1;", "now $b; now $a; check $a - $b - 2;", "now $a; now $b; now $a; check $a < 5;",
		"draw $a 3; if $a == 2 { while 1 { x = 0; } }", "draw $a 2; if $a { release k; }", "draw $a 2; if $a { recv d $a; }", "draw $a 2; draw $b 3; check $a + $b < 3;", "draw $a 6; $b = x; check $a < 2 + $b;",
		// there are fewer choices, or fewer alternatives, without the first one
		"draw $a 2; if $a { draw $b 3; check $b < 2; } else { draw $b 2; check $b; }", "draw $a 3; if $a { draw $b 2; check $b < 1; } else { check x; }", "if x { draw $b 2; check $b < 1; } else { check 0; }",
	}
	begin := []string{
		"", "", "go p; ", "go q; ", "go o; go u; send d 1; sleep 3; ", "go o; go u; send d 1; sleep 2; check x; ", "go u; go o; go o; send d 1; sleep 5; ", "go q; sleep 1; ", "go q; if x { draw $b 2; check $b < 1; } else { check 0; } ", "go q; if x { draw $b 2; check $b < 1; } else { check 0; } ",
	}
	p := m.some(2, append(steps, checks...)...)
	q := m.one("draw $c 2; check $c + x < 3;", "x = 1;", "x = 1;", "x = 1; r.n = 1;", "read f $c; check $c < 2;", "r.n = 1; x = x + 2;")
	t := m.one(begin...) + m.some(2, steps...) + m.one(checks...) + " " + m.some(2, append(checks, "call q;")...)
	return []string{
		"var x = 0;", "rec r { n = 0; }", "chan c 1;", "chan d 0;", "lock k ;", "file f ;",
		"proc o { recv d $a; x = x + $a; }", "proc u { recv d $a; r.n = $a; }", "proc p { " + p + "}", "proc q { " + q + " }", "test t { " + t + "}",
	}
}

// test returns a test with one of all environments, and often with leftovers.
func (m maker) test(t *testing.T) test {
	x := testOf(t, m.texts()...)
	x.e = api.Env{Kind: m.IntN(4), Fault: max(0, m.IntN(13)-4), Skew: max(0, m.IntN(13)-4)}
	for range m.IntN(2) * m.IntN(6) {
		x.left = append(x.left, api.Cell{Name: m.one("x", "x", "r.n", "f", "y", "", "c"), N: m.IntN(5) - 1})
	}
	return x
}

// words returns the empty word, and up to n words of a code whose runs end in different ways, none of them long.
func (m maker) words(x test, n int) [][]int {
	type end struct {
		outcome, site int
		where         string
	}
	l, known := [][]int{nil}, map[end]bool{}
	for range 8 * n {
		word := make([]int, m.IntN(maxChoices/2))
		for i := range word {
			word[i] = m.IntN(2) * m.IntN(4)
		}
		done, last := x.refFollow(word)
		if e := (end{last.Outcome, last.Site, last.Where}); len(done) < maxChoices && !known[e] && len(l) <= n {
			known[e] = true
			l = append(l, append(play.Trim(done), make([]int, m.IntN(maxChoices-len(done)))...))
		}
	}
	return l
}

// games calls f for tests by chance that have choices, or leftovers.
func games(t *testing.T, seeds int, f func(m maker, x test)) {
	t.Helper()
	n := 0
	for seed := range uint64(seeds) {
		m := newMaker(seed)
		x := m.test(t)
		if r, e := play.Play(x.c, x.e, x.left, nil); e == api.OK && len(r.Moves)+len(x.left) > 0 && len(r.Moves) <= maxChoices {
			n++
			f(m, x)
		}
		if t.Failed() {
			t.Fatal("the seed is", seed)
		}
	}
	if n < seeds/2 {
		t.Errorf("only %d tests of %d have something to choose", n, seeds)
	}
}

// refFollow returns by the words of the chapter the word of the run that follows a word, and its last state.
func (x test) refFollow(word []int) ([]int, machine.State) {
	var done []int
	s, e := machine.Start(x.c, x.e, x.left)
	for e == api.OK && s.Outcome == -1 {
		p, _ := machine.Next(x.c, x.e, s)
		if len(p.Parts) == 1 {
			s, _, e = machine.Do(x.c, x.e, s, 0)
			continue
		}
		k := 0
		if n := len(done); n < len(word) && word[n] >= 0 && word[n] < len(p.Parts) {
			k = word[n]
		}
		done = append(done, k)
		s, _, e = machine.Do(x.c, x.e, s, k)
	}
	if e != api.OK {
		panic(e)
	}
	return done, s
}

// refRun returns the run that follows a word.
func (x test) refRun(word []int) play.Run {
	done, _ := x.refFollow(word)
	r, e := play.Play(x.c, x.e, x.left, done)
	if e != api.OK {
		panic(e)
	}
	return r
}

// refChoices returns by the words of the chapter the causes of all choices of the run that follows a word.
func (x test) refChoices(word []int) []cause.Cause {
	r := x.refRun(word)
	states, _ := play.States(x.c, x.e, x.left, play.Word(r))
	lines := play.Print(r)
	var l []cause.Cause
	for i, move := range r.Moves {
		kind := slices.Index([]string{"pick", "draw", "deliver", "jump", "lose"}, strings.Fields(lines[i])[0])
		pc := move.Point.PC
		if kind == 0 { // the next one of the states in which a thread is picked
			for states[0].Picked < 0 {
				states = states[1:]
			}
			frames := states[0].Threads[states[0].Picked].Frames
			pc = frames[len(frames)-1].PC
			states = states[1:]
		}
		p := len(x.c.Begins) - 1
		for x.c.Begins[p] > pc {
			p--
		}
		l = append(l, cause.Cause{Kind: kind, Where: x.c.Names[p], PC: pc - x.c.Begins[p], K: move.K, At: i})
	}
	return l
}

// refSuspects returns the causes of all choices whose numbers are not 0, and of all leftovers.
func (x test) refSuspects(word []int) []cause.Cause {
	var l []cause.Cause
	for _, y := range x.refChoices(word) {
		if y.K > 0 {
			l = append(l, y)
		}
	}
	values := map[string]int{}
	var names []string
	for _, cell := range x.left {
		if _, known := values[cell.Name]; !known {
			values[cell.Name] = cell.N
			names = append(names, cell.Name)
		}
	}
	slices.Sort(names)
	for _, name := range names {
		l = append(l, cause.Cause{Kind: 5, K: values[name], At: -1, Name: name})
	}
	return l
}

// refWithout returns what a run without a cause of a word follows: what is left, and the word.
func (x test) refWithout(word []int, y cause.Cause) (test, []int) {
	if y.Kind != 5 {
		return x, slices.Concat(word[:y.At], []int{0}, word[y.At+1:])
	}
	var left []api.Cell
	for _, cell := range x.left {
		if cell.Name != y.Name {
			left = append(left, cell)
		}
	}
	return x.in(x.e, left...), word
}

// refCauses returns the causes of a word for a want.
func (x test) refCauses(w shrink.Want, word []int) []cause.Cause {
	var l []cause.Cause
	for _, y := range x.refSuspects(word) {
		without, other := x.refWithout(word, y)
		if !shrink.Shows(without.refRun(other).Result, w) {
			l = append(l, y)
		}
	}
	return l
}

// A count tells how often something was seen, so that a test is known to look at everything.
type count map[string]int

func (n count) check(t *testing.T, least int, names ...string) {
	t.Helper()
	for _, name := range names {
		if n[name] < least {
			t.Errorf("the test has seen only %d times: %s", n[name], name)
		}
	}
}

// kinds has names of the kinds of causes.
var kinds = []string{"order", "number", "delivery", "jump", "loss", "leftover"}

// causes counts causes by their kinds.
func (n count) causes(why string, l []cause.Cause) {
	for _, x := range l {
		n[fmt.Sprint(why, " ", kinds[x.Kind])]++
	}
}

// of returns what causes has counted for all kinds.
func of(why string, kinds []string) []string {
	var l []string
	for _, kind := range kinds {
		l = append(l, why+" "+kind)
	}
	return l
}
