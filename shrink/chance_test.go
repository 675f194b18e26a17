package shrink_test

import (
	"fmt"
	"math/rand/v2"
	"slices"
	"strings"
	"testing"

	"culprit/api"
	"culprit/code"
	"culprit/machine"
	"culprit/shrink"
)

// A test is what has runs.
type test struct {
	c    code.Code
	e    api.Env
	left []api.Cell
}

func (x test) in(e api.Env, left ...api.Cell) test { return test{x.c, e, left} }

// testOf returns the test t of some texts.
func testOf(t *testing.T, texts ...string) test {
	t.Helper()
	var l []api.Def
	for _, text := range texts {
		l = append(l, api.Def{Name: strings.Fields(text)[1], Text: text})
	}
	c, e := code.Compile(l, "t")
	if e != api.OK {
		t.Fatal(e, texts)
	}
	return test{c: c}
}

// A maker makes tests by chance.
type maker struct{ *rand.Rand }

func newMaker(seed uint64) maker { return maker{rand.New(rand.NewPCG(14, seed))} }

func (m maker) one(l ...string) string { return l[m.IntN(len(l))] }

var (
	varied = []string{
		"draw $a 2;", "draw $a 3;", "draw $b 2;", "draw $b 4;", "x = x + $a;", "x = x + 1;", "$a = x;", "y = $b;", "$b = $a + $b;", "draw $b 2; y = y + $b;",
		"if $a { draw $b 3; }", "if $a == 1 { draw $a 2; } else { x = 2; }", "if $b < 2 { draw $a 3; }", "if $a { recv c $b; }", "if $b { release k; }",
		"check $a < 1;", "check $a < 2;", "check $b < 3;", "check $a * $b < 2;", "check x < 3;", "check $b - $a < 2;", "check x + y < 3;", "check x == 0;", "while $b { x = $b; }",
	}
	others = []string{
		"write f 1; read f $a;", "write f 1;", "read f $a;", "now $a;", "sleep 1;", "alloc 3;", "acquire k; x = 3; release k;", "acquire k; $b = x; release k;",
		"send c 1;", "recv c $b;", "send d 1;", "recv d $a;", "acquire k;", "go p;", "call q;",
	}
)

// statements returns up to n statements.
func (m maker) statements(n int) string {
	text := ""
	for range m.IntN(n + 1) {
		if m.IntN(5) > 0 {
			text += m.one(varied...) + " "
		} else {
			text += m.one(others...) + " "
		}
	}
	return text
}

// test returns a test in which threads make some statements.
func (m maker) test(t *testing.T) test {
	p := m.IntN(3)
	x := testOf(t,
		"var x = 0;", "var y = 0;", "chan c 1;", "chan d 0;", "lock k ;", "file f ;",
		"proc q { "+m.one("draw $a 2; x = $a;", "check x < 2;", "recv d $a;", "x = 1;")+" }",
		"proc p { "+strings.ReplaceAll(m.statements(2*p), "go p;", m.one("go q;", "x = 2;"))+" }",
		"test t { "+m.one("", "", "go p; ", "go q; ", "go q; go q; ")+m.one("draw $a 2; ", "draw $a 3; draw $b 2; ", "draw $b 3; x = $b; ", "now $a; ", "")+
			m.statements(6-p)+m.one("", "check $a + $b < 3;", "check x < 2;", "check x == y;", "check $a - x;", "draw $a 2;", "recv c $a;", "if $a { release k; }", "if $b { while 1 { x = 1; } }")+" }",
	)
	x.e = api.Env{Kind: m.IntN(4), Fault: m.IntN(2) * m.IntN(9), Skew: m.IntN(2) * m.IntN(9)}
	if m.IntN(3) == 0 {
		x.left = append(x.left, api.Cell{Name: m.one("x", "y", "f", "c"), N: m.IntN(4)}, api.Cell{Name: m.one("x", "f"), N: 1})
	}
	return x
}

// An ended is a word of a code and how the run by it ends.
type ended struct {
	word []int
	r    api.Result
}

// words returns by the words of the chapter the words of a code, in their order; false, if there are more than most.
func (x test) words(most int) ([]ended, bool) {
	var l []ended
	var walk func(s machine.State, word []int)
	walk = func(s machine.State, word []int) {
		if len(l) > most {
			return
		}
		if s.Outcome != -1 {
			l = append(l, ended{trimmed(word), api.Result{Outcome: s.Outcome, Where: s.Where, Site: s.Site}})
			return
		}
		p, _ := machine.Next(x.c, x.e, s)
		for k := range p.Parts {
			behind, _, _ := machine.Do(x.c, x.e, s, k)
			if len(p.Parts) > 1 {
				walk(behind, append(slices.Clone(word), k))
			} else {
				walk(behind, word)
			}
		}
	}
	s, e := machine.Start(x.c, x.e, x.left)
	if e != api.OK {
		panic(e)
	}
	walk(s, nil)
	slices.SortFunc(l, func(a, b ended) int { return refCompare(a.word, b.word) })
	return l, len(l) <= most
}

// trimmed returns a word without the noughts at its end.
func trimmed(word []int) []int {
	for len(word) > 0 && word[len(word)-1] == 0 {
		word = word[:len(word)-1]
	}
	return word
}

// refCompare compares two words that are trimmed.
func refCompare(a, b []int) int {
	if len(a) != len(b) {
		return len(a) - len(b)
	}
	return slices.Compare(a, b)
}

// key returns a text that only this word has.
func key(word []int) string { return fmt.Sprint(trimmed(word)) }

// refShows does by the words of the chapter what Shows does.
func refShows(r api.Result, w shrink.Want) bool {
	if r.Outcome != w.Outcome {
		return false
	}
	if w.Where != "" {
		return r.Where == w.Where && r.Site == w.Site
	}
	return true
}

// refSmaller does by the words of the chapter what Smaller does.
func refSmaller(word []int) [][]int {
	word = trimmed(word)
	known := map[string][]int{}
	add := func(w []int) { known[key(w)] = trimmed(w) }
	for i, n := range word {
		var without []int
		for k, other := range word {
			if k != i {
				without = append(without, other)
			}
		}
		add(without)
		if n > 0 {
			for _, less := range []int{0, n - 1} {
				w := slices.Clone(word)
				w[i] = less
				add(w)
			}
		}
	}
	var l [][]int
	for _, w := range known {
		l = append(l, w)
	}
	slices.SortFunc(l, refCompare)
	return l
}

// A game has all words of a code, so that words need not be played.
type game struct {
	test
	l  []ended
	by map[string]api.Result
}

func gameOf(x test, l []ended) game {
	g := game{x, l, map[string]api.Result{}}
	for _, w := range l {
		g.by[key(w.word)] = w.r
	}
	return g
}

// shows reports whether a word, which may be none of the code, shows a want.
func (g game) shows(word []int, w shrink.Want) bool {
	r, is := g.by[key(word)]
	return is && refShows(r, w)
}

// least returns the least word for a want, and its number from 1 on; 0, if there is none.
func (g game) least(w shrink.Want) ([]int, int) {
	for i, x := range g.l {
		if refShows(x.r, w) {
			return x.word, i + 1
		}
	}
	return nil, 0
}

// local returns the locally least word to which a word leads, and how many smaller ones are examined.
func (g game) local(w shrink.Want, word []int) ([]int, int) {
	return refLocal(func(x []int) bool { return g.shows(x, w) }, word)
}

// refLocal does by the words of the chapter what Local does.
func refLocal(shows func([]int) bool, word []int) ([]int, int) {
	smaller := refSmaller(word)
	for i, x := range smaller {
		if shows(x) {
			least, n := refLocal(shows, x)
			return least, n + i + 1
		}
	}
	return trimmed(word), len(smaller)
}

// isLocal reports whether a word is locally least.
func (g game) isLocal(w shrink.Want, word []int) bool {
	return len(trimmed(word)) == len(word) && g.shows(word, w) &&
		!slices.ContainsFunc(refSmaller(word), func(x []int) bool { return g.shows(x, w) })
}

// wants returns wants that runs of a code show, and some that none shows.
func (m maker) wants(g game) []shrink.Want {
	r := g.l[m.IntN(len(g.l))].r
	last := g.l[len(g.l)-1].r
	return []shrink.Want{
		{Outcome: r.Outcome, Where: r.Where, Site: r.Site},
		{Outcome: r.Outcome, Where: r.Where, Site: r.Site + 1},
		{Outcome: last.Outcome, Site: 7},
		{Outcome: m.IntN(api.Outcomes)},
		{Outcome: m.IntN(api.Outcomes+2) - 1, Where: m.one("t", "p", "z", "")},
	}
}

// games calls f for tests by chance with at least two words and at most 100.
func games(t *testing.T, seeds int, f func(m maker, g game)) {
	t.Helper()
	n := 0
	for seed := range uint64(seeds) {
		m := newMaker(seed)
		x := m.test(t)
		if l, is := x.words(100); is && len(l) > 1 {
			n++
			f(m, gameOf(x, l))
		}
		if t.Failed() {
			t.Fatal("the seed is", seed)
		}
	}
	if n < seeds/3 {
		t.Errorf("only %d tests of %d have some words, and not too many", n, seeds)
	}
}

func sameLists(a, b [][]int) bool { return slices.EqualFunc(a, b, slices.Equal[[]int]) }

// A count tells how often something was seen, so that a test is known to look at everything.
type count map[string]int

func (n count) check(t *testing.T, least int, names ...string) {
	t.Helper()
	for _, name := range names {
		if n[name] < least {
			t.Errorf("the test has seen only %d times: %s", n[name], name)
		}
	}
}
