package measure_test

import (
	"fmt"
	"math/big"
	"math/rand/v2"
	"slices"
	"strings"
	"testing"

	"culprit/api"
	"culprit/code"
	"culprit/machine"
	"culprit/measure"
	"culprit/ratio"
)

// of returns the ratio of two integers.
func of(n, d int) api.Ratio {
	r, e := ratio.Of(n, d)
	if e != api.OK {
		panic(e)
	}
	return r
}

// cost returns a cost of steps, allocs and waits, as far as they are named.
func cost(l ...int) api.Cost {
	l = append(l, 0, 0, 0)
	return api.Cost{Steps: l[0], Allocs: l[1], Waits: l[2]}
}

func passes(c api.Cost, part api.Ratio) measure.Share { return measure.Share{Cost: c, Part: part} }

func fails(outcome int, where string, site int, c api.Cost, part api.Ratio) measure.Share {
	return measure.Share{Outcome: outcome, Where: where, Site: site, Cost: c, Part: part}
}

// A test is what a measure is of.
type test struct {
	c    code.Code
	e    api.Env
	left []api.Cell
}

// testOf returns the test t of some texts.
func testOf(t *testing.T, texts ...string) test {
	t.Helper()
	var l []api.Def
	for _, text := range texts {
		l = append(l, api.Def{Name: strings.Fields(text)[1], Text: text})
	}
	c, e := code.Compile(l, "t")
	if e != api.OK {
		t.Fatal(e, texts)
	}
	return test{c: c}
}

func (x test) whole(t *testing.T) ([]measure.Share, int) {
	t.Helper()
	l, n, e := measure.Whole(x.c, x.e, x.left, api.MaxGraph)
	if e != api.OK {
		t.Fatal("P11.1: Whole:", e)
	}
	return l, n
}

// A maker makes tests by chance.
type maker struct{ *rand.Rand }

func newMaker(seed uint64) maker { return maker{rand.New(rand.NewPCG(11, seed))} }

func (m maker) some(n int, l ...string) string {
	var b strings.Builder
	for range n {
		b.WriteString(l[m.IntN(len(l))] + " ")
	}
	return b.String()
}

// common are statements that need neither a machine, nor a file or a clock.
var common = []string{
	"x = x + 1;", "x = x + $a;", "$a = x;", "$b = $a * 2;", "draw $a 3;", "draw $b 2;", "draw $a 6;", "alloc 7;", "sleep 2;",
	"if $a { alloc 5; }", "if $a < 2 { alloc 1; draw $b 4; } else { x = 4; }", "while $b { $b = $b - 1; alloc 2; }", "while x < 2 { x = x + 1; }",
	"send c 1;", "recv c $a;", "recv d $a;", "acquire k; x = $b; release k;", "acquire l; release l;", "acquire k;", "release l;",
	"check $a < 2;", "check x < 2;", "check $b == 0;", "go q;", "call q;",
}

const (
	onMachines = "if kind < 2 { alloc 3; }"
	onFiles    = "write f 3; read f $a;"
	onClocks   = "now $a;"
)

// texts returns the texts of a test, with some of the further statements.
func (m maker) texts(further ...string) []string {
	l := slices.Concat(common, further, further, further)
	begin := m.some(m.IntN(3), "go p;", "go q;", "go q;")
	end := m.some(1, "", "check $a < 2;", "check x < 2;", "check 0;", "recv d $a;", "while 1 { x = x + 1; }", "while 1 { }", "release l;")
	return []string{
		"var x = 0;", "chan c 1;", "chan d 0;", "lock k ;", "lock l ;", "file f ;",
		"proc p { " + m.some(1+m.IntN(3), l...) + "}",
		"proc q { " + m.some(1+m.IntN(2), "x = 1;", "send d 4;", "alloc 1;", "draw $a 2;", "recv d $a; check $a;", "acquire l;", "check x;") + "}",
		"test t { " + begin + m.some(m.IntN(4), l...) + m.some(1, further...) + end + "}",
	}
}

func (m maker) env() api.Env {
	return api.Env{Kind: m.IntN(4), Fault: m.IntN(2) * m.IntN(9), Skew: m.IntN(2) * m.IntN(9)}
}

func (m maker) left() []api.Cell {
	var l []api.Cell
	for range m.IntN(3) {
		l = append(l, api.Cell{Name: []string{"x", "f", "c"}[m.IntN(3)], N: m.IntN(5)})
	}
	return l
}

// tests calls f for tests by chance.
func tests(t *testing.T, n int, f func(m maker, x test)) {
	t.Helper()
	for seed := range uint64(n) {
		m := newMaker(seed)
		x := testOf(t, m.texts(onMachines, onFiles, onClocks)...)
		x.e, x.left = m.env(), m.left()
		f(m, x)
		if t.Failed() {
			t.Fatal("the seed is", seed)
		}
	}
}

// A known way is one with a cost, in words; its number is the sum of the measures of its runs.
type known map[string]*big.Rat

func words(outcome int, where string, site int, c api.Cost) string {
	return fmt.Sprintf("%d %q %d %v", outcome, where, site, c)
}

// wordsOf returns shares as known ways.
func wordsOf(l []measure.Share) known {
	k := known{}
	for _, x := range l {
		k[words(x.Outcome, x.Where, x.Site, x.Cost)] = rational(x.Part)
	}
	return k
}

func (k known) same(other known) bool {
	if len(k) != len(other) {
		return false
	}
	for w, n := range k {
		if m := other[w]; m == nil || m.Cmp(n) != 0 {
			return false
		}
	}
	return true
}

// rational returns the number of a ratio.
func rational(r api.Ratio) *big.Rat {
	s, e := ratio.Print(r)
	if e != api.OK {
		panic(e)
	}
	n, ok := new(big.Rat).SetString(s)
	if !ok {
		panic(s)
	}
	return n
}

// ratioOf returns the ratio of a number.
func ratioOf(n *big.Rat) api.Ratio {
	r, e := ratio.Parse(n.RatString())
	if e != api.OK {
		panic(e)
	}
	return r
}

// reference goes through all runs, one by one, and returns the measures of how they end, and how many states there are; false, if there are more than 500 runs.
func reference(x test) (known, int, bool) {
	ends, states, runs := known{}, map[string]bool{}, 0
	var run func(s machine.State, part *big.Rat)
	run = func(s machine.State, part *big.Rat) {
		bare := s
		bare.Cost = api.Cost{}
		states[fmt.Sprintf("%+v", bare)] = true
		if s.Outcome != -1 {
			w := words(s.Outcome, s.Where, s.Site, s.Cost)
			if ends[w] == nil {
				ends[w] = new(big.Rat)
			}
			ends[w].Add(ends[w], part)
			runs++
			return
		}
		p, _ := machine.Next(x.c, x.e, s)
		sum := 0
		for _, n := range p.Parts {
			sum += n
		}
		for k, n := range p.Parts {
			if runs > 500 {
				return
			}
			behind, _, _ := machine.Do(x.c, x.e, s, k)
			run(behind, new(big.Rat).Mul(part, big.NewRat(int64(n), int64(sum))))
		}
	}
	first, e := machine.Start(x.c, x.e, x.left)
	if e != api.OK {
		panic(e)
	}
	run(first, big.NewRat(1, 1))
	return ends, len(states), runs <= 500
}

// A count tells how often something was seen, so that a test is known to look at everything.
type count map[string]int

func (n count) check(t *testing.T, least int, names ...string) {
	t.Helper()
	for _, name := range names {
		if n[name] < least {
			t.Errorf("the test has seen only %d times: %s", n[name], name)
		}
	}
}

var outcomes = strings.Fields("passed failed stuck late broken")
