package play_test

import (
	"fmt"
	"math"
	"math/rand/v2"
	"slices"
	"strings"
	"testing"

	"culprit/api"
	"culprit/code"
	"culprit/machine"
	"culprit/merkle"
	"culprit/play"
)

// A maker makes tests by chance, and words for them.
type maker struct{ *rand.Rand }

func newMaker(seed uint64) maker { return maker{rand.New(rand.NewPCG(10, seed))} }

func (m maker) one(l ...string) string { return l[m.IntN(len(l))] }

// code returns the code of a test t with two procedures and some of all that there is.
func (m maker) code() code.Code {
	l := []api.Def{
		def("x", "var x = 0;"), def("y", "var y = 3;"), def("g", "rec g { n = 1; }"),
		def("c", "chan c 0;"), def("d", "chan d "+m.one("0", "1", "2")+";"),
		def("l", "lock l;"), def("k", "lock k;"), def("f", "file f;"),
		def("p", "proc p { "+m.one("", "recv c $a; ")+m.block("go q; ", "call q; ")+"}"),
		def("q", "proc q { "+m.one("", "", "recv c $b; ")+m.block()+"}"),
	}
	begin := ""
	for range m.IntN(4) {
		begin += m.one("go p; ", "go q; ")
	}
	l = append(l, def("t", "test t { "+begin+m.block("go p; ", "go q; ", "call p; ", "call q; ")+m.one("", "check x < 2; ", "check y == 3; ")+"}"))
	c, e := code.Compile(l, "t")
	if e != api.OK {
		panic(fmt.Sprint("the maker is wrong: ", e, l))
	}
	return c
}

func def(name, text string) api.Def { return api.Def{Name: name, Text: text} }

func (m maker) value() string {
	v := m.one("0", "1", "2", "$a", "$b", "x", "y", "g.n", "kind")
	if m.IntN(3) == 0 {
		v += m.one(" + ", " - ", " < ", " == ") + m.one("1", "$a", "x")
	}
	return v
}

// deep returns an expression for which there are n values on the stack.
func deep(n int) string {
	return strings.Repeat("1 + (", n-2) + "1 + 1" + strings.Repeat(")", n-2)
}

// block returns statements, and may have some further ones.
func (m maker) block(further ...string) string {
	var b strings.Builder
	for range 1 + m.IntN(5) {
		if len(further) > 0 && m.IntN(5) == 0 {
			b.WriteString(m.one(further...))
		} else {
			b.WriteString(m.statement())
		}
	}
	return b.String()
}

func (m maker) statement() string {
	v := m.value()
	switch m.IntN(12) {
	case 0:
		return m.one("$a", "$b", "x", "y", "g.n") + " = " + v + "; " + m.one("", "", "", "", "", "x = "+deep(17)+"; ")
	case 1, 2:
		return m.one("x = x + 1; ", "draw $a 3; ", "draw $b 2; ", "now $a; ", "now $b; ", "sleep 2; ", "alloc 7; ")
	case 3:
		return "send " + m.one("c", "c", "d") + " " + v + "; "
	case 4:
		return "recv " + m.one("c", "d") + " " + m.one("$a", "$b") + "; "
	case 5, 6:
		lock := m.one("k", "l")
		return "acquire " + lock + "; " + m.one("", "x = 1; ", "acquire k; ", "acquire l; ") + "release " + lock + "; "
	case 7:
		return m.one("write f "+v+"; ", "read f $a; ", "release l; ")
	case 8:
		return "check " + m.one("1", "1", "$a < 2", v) + "; "
	case 9:
		return "if " + v + " { x = 5; } else { draw $b 4; } "
	case 10:
		return m.one("while $b { $b = 0; } ", "while "+v+" { now $a; $b = $b + 1; } ", "write f 4; ")
	}
	return m.one("$b = $a; ", "y = $b; ")
}

func (m maker) env() api.Env {
	return api.Env{Kind: m.IntN(4), Fault: m.IntN(2) * m.IntN(9), Skew: m.IntN(2) * m.IntN(9)}
}

func (m maker) left() []api.Cell {
	var l []api.Cell
	for range m.IntN(4) {
		l = append(l, api.Cell{Name: m.one("x", "f", "g.n", "c", "z"), N: m.IntN(9) - 4})
	}
	return l
}

// word returns a word with a number for each choice of its run.
func (m maker) word(c code.Code, e api.Env, left []api.Cell) []int {
	var word []int
	s, _ := machine.Start(c, e, left)
	for s.Outcome == -1 {
		p, _ := machine.Next(c, e, s)
		k := m.IntN(len(p.Parts))
		if len(p.Parts) > 1 {
			word = append(word, k)
		}
		s, _, _ = machine.Do(c, e, s, k)
	}
	return word
}

// otherWord returns a word that may be no word of the code.
func (m maker) otherWord(word []int) []int {
	word = slices.Clone(word)
	odd := []int{0, 1, 2, 3, 5, -1, math.MinInt, math.MaxInt}[m.IntN(8)]
	switch m.IntN(5) {
	case 0:
		return play.Trim(word)
	case 1:
		if len(word) > 0 {
			word[m.IntN(len(word))] = odd
		}
	case 2:
		return append(word[:m.IntN(len(word)+1)], odd)
	case 3:
		return append(append(word, make([]int, m.IntN(4))...), odd)
	}
	return word
}

// runs calls f for tests by chance, with a word with a number for each choice.
func runs(t *testing.T, n int, f func(m maker, x started, word []int)) {
	t.Helper()
	for seed := range uint64(n) {
		m := newMaker(seed)
		x := started{m.code(), m.env(), m.left()}
		f(m, x, m.word(x.c, x.e, x.left))
		if t.Failed() {
			t.Fatal("the seed is", seed)
		}
	}
}

// Started has what a run begins with.
type started struct {
	c    code.Code
	e    api.Env
	left []api.Cell
}

func (x started) play(t *testing.T, word []int) play.Run {
	t.Helper()
	r, e := play.Play(x.c, x.e, x.left, word)
	if e != api.OK {
		t.Fatalf("P10.1: Play of %v: %v", word, e)
	}
	return r
}

func (x started) states(t *testing.T, word []int) []machine.State {
	t.Helper()
	l, e := play.States(x.c, x.e, x.left, word)
	if e != api.OK {
		t.Fatalf("P10.1: States of %v: %v", word, e)
	}
	return l
}

func (x started) seeded(t *testing.T, seed int) []int {
	t.Helper()
	word, e := play.Seeded(x.c, x.e, x.left, seed)
	if e != api.OK {
		t.Fatalf("P10.2: Seeded of %d: %v", seed, e)
	}
	return word
}

// refPlay does by the words of the chapter what Play and States do.
func refPlay(x started, word []int) (play.Run, []machine.State, api.Errno) {
	var r play.Run
	s, f := machine.Start(x.c, x.e, x.left)
	if f != api.OK {
		return r, nil, f
	}
	if len(word) > 160 {
		return r, nil, api.ErrLimit
	}
	states, used := []machine.State{s}, 0
	for s.Outcome == -1 {
		p, _ := machine.Next(x.c, x.e, s)
		k := 0
		if len(p.Parts) > 1 {
			if used < len(word) {
				k = word[used]
			}
			if used++; k < 0 || k > len(p.Parts)-1 {
				return play.Run{}, nil, api.ErrRange
			}
			r.Moves = append(r.Moves, play.Move{Point: p, K: k})
		}
		var l []machine.Access
		s, l, _ = machine.Do(x.c, x.e, s, k)
		if p.Thread != -1 {
			r.Threads, r.Access = append(r.Threads, p.Thread), append(r.Access, l)
		}
		states = append(states, s)
	}
	for i, n := range word {
		if i >= used && n != 0 {
			return play.Run{}, nil, api.ErrMore
		}
	}
	r.Result = api.Result{Outcome: s.Outcome, Where: s.Where, Site: s.Site, Cost: s.Cost, Root: refRoot(states)}
	r.Left = machine.Left(x.c, s)
	return r, states, api.OK
}

func refRoot(states []machine.State) api.Digest {
	var leaves []merkle.Leaf
	for i, s := range states {
		d := machine.Digest(s)
		leaves = append(leaves, merkle.Leaf{Key: fmt.Sprintf("%04d", i), Value: string(d[:])})
	}
	root, e := merkle.Root(leaves)
	if e != api.OK {
		panic(e)
	}
	return root
}

// show returns all fields of a run; lists that are nil are like empty ones.
func show(r play.Run) string {
	where, names := r.Result.Where, ""
	r.Result.Where = ""
	for i := range r.Left {
		names += fmt.Sprintf(" %q", r.Left[i].Name)
	}
	return fmt.Sprintf("%+v %q%s", r, where, names)
}

// showStates returns all fields of states.
func showStates(l []machine.State) string {
	var b strings.Builder
	for _, s := range l {
		fmt.Fprintf(&b, "%+v\n", s)
	}
	return b.String()
}

// A count tells how often something was seen, so that a test is known to look at everything.
type count map[string]int

func (n count) check(t *testing.T, least int, names ...string) {
	t.Helper()
	for _, name := range names {
		if n[name] < least {
			t.Errorf("the test has seen only %d times: %s", n[name], name)
		}
	}
}

var (
	kindNames    = strings.Fields("pick draw deliver jump lose")
	outcomeNames = strings.Fields("passed failed stuck late broken")
)

// run counts how a run ended, and its choices.
func (n count) run(r play.Run) {
	n[outcomeNames[r.Result.Outcome]]++
	for _, m := range r.Moves {
		n[kindNames[m.Point.Kind]]++
	}
	switch {
	case len(r.Threads) == 0:
		n["no steps"]++
	case r.Result.Outcome == api.Broken && len(r.Threads) == r.Result.Cost.Steps:
		n["broken behind a step"]++
	case len(r.Threads) > r.Result.Cost.Steps:
		n["broken step"]++
	}
}
