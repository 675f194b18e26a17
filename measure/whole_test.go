package measure_test

import (
	"math"
	"math/big"
	"slices"
	"testing"

	"culprit/api"
	"culprit/code"
	"culprit/measure"
	"culprit/play"
	"culprit/ratio"
)

// sameNames is a code with two procedures p, which fail at the same place.
func sameNames(name string) code.Code {
	return code.Code{
		Instrs: []api.Instr{{Op: code.Push}, {Op: code.Check}, {Op: code.Back}, {Op: code.Draw, A: 2}, {Op: code.Load}, {Op: code.Zero, A: 7}, {Op: code.Call}, {Op: code.Push}, {Op: code.Check, B: 1}, {Op: code.End}},
		Begins: []int{0, 3}, Locals: []int{0, 1}, Names: []string{name, name},
	}
}

// A written test has its shares and the number of its states written out.
type written struct {
	what   string
	test   test
	shares []measure.Share
	states int
}

func writtenTests(t *testing.T) []written {
	on := func(x test, e api.Env, left ...api.Cell) test { return test{x.c, e, left} }
	faults := testOf(t, "file f ;", "test t { write f 1; now $a; read f $b; check $b == 1; check $a == 1; }")
	found := testOf(t, "var x = 0;", "test t { check x == 5; }")
	machines := testOf(t, "test t { if kind == 2 { alloc 4; } check kind < 3; }")
	return []written{
		{"draws", testOf(t, "test t { draw $a 3; draw $b 2; check $a * $b < 2; }"), []measure.Share{passes(cost(3), of(5, 6)), fails(api.Failed, "t", 0, cost(2), of(1, 6))}, 11},
		{"nothing", testOf(t, "test t { }"), []measure.Share{passes(cost(1), of(1, 1))}, 2},
		{"over at once", testOf(t, "test t { alloc 7; check 1; check 0; }"), []measure.Share{fails(api.Failed, "t", 1, cost(0, 7), of(1, 1))}, 1},
		{"a cost ahead of the first step", testOf(t, "test t { alloc 7; }"), []measure.Share{passes(cost(1, 7), of(1, 1))}, 2},
		{"what cannot be done", testOf(t, "lock l ;", "test t { alloc 2; release l; }"), []measure.Share{fails(api.Broken, "t", 1, cost(0, 2), of(1, 1))}, 2},
		{"silent without an end", testOf(t, "test t { draw $a 2; while $a { } }"), []measure.Share{passes(cost(2), of(1, 2)), fails(api.Late, "t", 2, cost(1), of(1, 2))}, 4},
		{"64 steps", testOf(t, "var x = 0;", "test t { while 1 { x = 3; } }"), []measure.Share{fails(api.Late, "t", 3, cost(64), of(1, 1))}, 65},
		{"a lock that is not released", testOf(t, "lock l ;", "proc p { acquire l; }", "test t { go p; acquire l; }"), []measure.Share{passes(cost(3), of(1, 2)), fails(api.Stuck, "t", 1, cost(3), of(1, 2))}, 8},
		{"a thread that waits", testOf(t, "lock l ;", "proc p { acquire l; }", "test t { acquire l; go p; release l; }"), []measure.Share{passes(cost(4, 0, 1), of(1, 2)), passes(cost(5, 0, 1), of(1, 4)), passes(cost(6, 0, 1), of(1, 4))}, 13},
		{"two receivers", testOf(t, "chan d 0;", "proc q { recv d $a; check 0; }", "proc p { recv d $a; check 1; check 0; }", "test t { go q; go p; send d 1; }"), []measure.Share{fails(api.Failed, "p", 1, cost(3), of(1, 2)), fails(api.Failed, "q", 0, cost(3), of(1, 2))}, 5},
		{"faults", on(faults, api.Env{Fault: 3, Skew: 5}), []measure.Share{passes(cost(4), of(143, 256)), fails(api.Failed, "t", 0, cost(3), of(3, 16)), fails(api.Failed, "t", 1, cost(3), of(65, 256))}, 12},
		{"no faults", on(faults, api.Env{}), []measure.Share{passes(cost(4), of(1, 1))}, 5},
		{"half of the writes", on(faults, api.Env{Fault: 8}), []measure.Share{passes(cost(4), of(1, 2)), fails(api.Failed, "t", 0, cost(3), of(1, 2))}, 8},
		{"nothing was left", found, []measure.Share{fails(api.Failed, "t", 0, cost(1), of(1, 1))}, 2},
		{"something was left", on(found, api.Env{}, api.Cell{Name: "y", N: 1}, api.Cell{Name: "x", N: 5}, api.Cell{Name: "x", N: 6}), []measure.Share{passes(cost(2), of(1, 1))}, 3},
		{"the kind 0", machines, []measure.Share{passes(cost(1), of(1, 1))}, 2},
		{"the kind 2", on(machines, api.Env{Kind: 2}), []measure.Share{passes(cost(1, 4), of(1, 1))}, 2},
		{"the kind 3", on(machines, api.Env{Kind: 3}), []measure.Share{fails(api.Failed, "t", 0, cost(), of(1, 1))}, 1},
		{"states that differ in their cost alone", testOf(t, "test t { draw $a 2; if $a { alloc 1; } $a = 0; draw $a 2; if $a { alloc 1; } $a = 0; }"), []measure.Share{passes(cost(3), of(1, 4)), passes(cost(3, 1), of(1, 2)), passes(cost(3, 2), of(1, 4))}, 4},
		{"states that differ in more", testOf(t, "test t { draw $a 2; if $a { alloc 1; } draw $b 2; }"), []measure.Share{passes(cost(3), of(1, 2)), passes(cost(3, 1), of(1, 2))}, 8},
		{"two procedures of one name", test{c: sameNames("p")}, []measure.Share{fails(api.Failed, "p", 0, cost(1), of(1, 1))}, 3},
		{"procedures without a name", test{c: sameNames("")}, []measure.Share{fails(api.Failed, "", 0, cost(1), of(1, 1))}, 3},
	}
}

func TestShares(t *testing.T) {
	for _, c := range writtenTests(t) {
		x := c.test
		l, n, e := measure.Whole(x.c, x.e, x.left, api.MaxGraph)
		if e != api.OK || n != c.states || !measure.Same(l, c.shares) {
			t.Errorf("P11.1: Whole of %s: %v, %d states, %v; want %d, %v", c.what, e, n, l, c.states, c.shares)
		}
		if e := measure.Check(l); e != api.OK {
			t.Errorf("P11.8: Whole of %s is no measure: %v", c.what, e)
		}
		if l, n, e := measure.Whole(x.c, x.e, x.left, c.states); e != api.OK || n != c.states || !measure.Same(l, c.shares) {
			t.Errorf("P11.1: Whole of %s with as many states as there are: %v, %d, %v", c.what, e, n, l)
		}
		if c.states > 1 {
			x.refused(t, c.states-1, api.ErrLimit)
			x.refused(t, 1, api.ErrLimit)
		}
	}
}

// refused expects an error of Whole, and nothing beside it.
func (x test) refused(t *testing.T, most int, want api.Errno) {
	t.Helper()
	if l, n, e := measure.Whole(x.c, x.e, x.left, most); e != want || n != 0 || len(l) != 0 {
		t.Errorf("P11.1: Whole for %d states: %v, %d, %v; want %v", most, e, n, l, want)
	}
}

func TestErrorsOfWhole(t *testing.T) {
	x := testOf(t, "test t { draw $a 2; }")
	for _, most := range []int{0, -1, api.MaxGraph + 1, math.MaxInt, math.MinInt} {
		x.refused(t, most, api.ErrRange)
		test{x.c, api.Env{}, make([]api.Cell, 64)}.refused(t, most, api.ErrRange)
		test{x.c, api.Env{}, make([]api.Cell, 65)}.refused(t, most, api.ErrLimit)
		test{x.c, api.Env{Kind: 4}, make([]api.Cell, 65)}.refused(t, most, api.ErrArg)
		test{x.c, api.Env{Fault: -1}, nil}.refused(t, most, api.ErrArg)
		test{x.c, api.Env{Skew: 9}, nil}.refused(t, most, api.ErrArg)
		test{}.refused(t, most, api.ErrArg)
		test{c: code.Code{Instrs: make([]api.Instr, 513)}, e: api.Env{Kind: 4}}.refused(t, most, api.ErrLimit)
		test{c: code.Code{Instrs: []api.Instr{{Op: code.Back}}, Begins: []int{0}, Locals: []int{0}, Names: []string{"t"}}}.refused(t, most, api.ErrForm)
	}
	endless := testOf(t, "var x = 0;", "proc p { while 1 { x = x + 1; } }", "test t { go p; while 1 { x = x + 1; } }")
	for _, most := range []int{1, 2, 100, api.MaxGraph} {
		endless.refused(t, most, api.ErrLimit)
	}
}

// TestManyStates: a test with most of the states that are allowed.
func TestManyStates(t *testing.T) {
	x := testOf(t, "var x = 0;", "lock l ;", "chan c 3;", "proc p { acquire l; x = x + 1; release l; send c 1; }", "test t { go p; go p; go p; go p; recv c $a; recv c $a; recv c $a; recv c $a; check x == 4; }")
	l, n := x.whole(t)
	if n < 10000 || measure.Check(l) != api.OK {
		t.Errorf("P11.8: %d states, %v", n, measure.Check(l))
	}
	if r, e := measure.Fails(l); e != api.OK || !ratio.Same(r, api.Ratio{}) {
		t.Errorf("P11.1: with a lock it fails with %v, %v", r, e)
	}
	x.refused(t, n-1, api.ErrLimit)
}

// TestReference compares Whole with the reference.
func TestReference(t *testing.T) {
	seen := count{}
	tests(t, 400, func(_ maker, x test) {
		ends, states, few := reference(x)
		if !few {
			return
		}
		l, n := x.whole(t)
		if n != states || !ends.same(wordsOf(l)) {
			t.Errorf("P11.1: Whole: %d states, %v; want %d, %v", n, l, states, ends)
		}
		if e := measure.Check(l); e != api.OK {
			t.Errorf("P11.8: Whole is no measure: %v", e)
		}
		if again, _ := x.whole(t); !measure.Same(l, again) {
			t.Error("Whole returns something else when it is called again")
		}
		if seen["tests"]++; len(l) > 3 {
			seen["many shares"]++
		}
		for _, s := range l {
			seen[outcomes[s.Outcome]]++
		}
	})
	seen.check(t, 50, append(outcomes, "tests")...)
	seen.check(t, 50, "many shares")
}

// nextWord returns the word of the run behind another one, in their order; false behind the last one.
func nextWord(r play.Run) ([]int, bool) {
	word := play.Word(r)
	for i := len(word) - 1; i >= 0; i-- {
		if word[i]++; word[i] < len(r.Moves[i].Point.Parts) {
			return word[:i+1], true
		}
	}
	return nil, false
}

// TestAllWords: the shares are the sums of what Of returns for all words.
func TestAllWords(t *testing.T) {
	seen := count{}
	tests(t, 250, func(_ maker, x test) {
		ends, word, more := known{}, []int(nil), true
		for runs := 0; more; runs++ {
			if runs == 40 {
				return
			}
			r, e := play.Play(x.c, x.e, x.left, word)
			if e != api.OK {
				t.Fatal(e)
			}
			part, e := measure.Of(x.c, x.e, x.left, word)
			if e != api.OK {
				t.Fatal("P11.2: Of:", e)
			}
			w := words(r.Result.Outcome, r.Result.Where, r.Result.Site, r.Result.Cost)
			if ends[w] == nil {
				ends[w] = new(big.Rat)
			}
			ends[w].Add(ends[w], rational(part))
			word, more = nextWord(r)
		}
		l, _ := x.whole(t)
		if !ends.same(wordsOf(l)) {
			t.Errorf("P11.8: the runs have %v, the shares are %v", ends, l)
		}
		seen["tests"]++
		seen["shares"] += len(l)
	})
	seen.check(t, 100, "tests")
	seen.check(t, 200, "shares")
}

// TestWaysOfRuns: a way and a cost of a run has a share, at least as great as the measure of the run.
func TestWaysOfRuns(t *testing.T) {
	seen := count{}
	tests(t, 300, func(m maker, x test) {
		l, _, e := measure.Whole(x.c, x.e, x.left, 3000)
		if e != api.OK {
			return
		}
		ends := wordsOf(l)
		for range 5 {
			word, _ := play.Seeded(x.c, x.e, x.left, int(m.Uint64()))
			r, e := play.Play(x.c, x.e, x.left, word)
			part, f := measure.Of(x.c, x.e, x.left, word)
			if e != api.OK || f != api.OK {
				t.Fatal("P11.2: Of:", e, f)
			}
			share := ends[words(r.Result.Outcome, r.Result.Where, r.Result.Site, r.Result.Cost)]
			if share == nil || share.Cmp(rational(part)) < 0 {
				t.Errorf("P11.8: the run by %v has the measure %v, its share is %v", word, part, share)
			}
			want := big.NewRat(1, 1)
			for _, c := range r.Moves {
				sum := 0
				for _, n := range c.Point.Parts {
					sum += n
				}
				want.Mul(want, big.NewRat(int64(c.Point.Parts[c.K]), int64(sum)))
			}
			if want.Cmp(rational(part)) != 0 {
				t.Errorf("P11.2: Of %v: %v; want %v", word, part, want)
			}
			seen["runs"]++
			seen["choices"] += len(r.Moves)
		}
	})
	seen.check(t, 1000, "runs", "choices")
}

func TestOf(t *testing.T) {
	draws := testOf(t, "test t { draw $a 3; draw $b 2; check $a * $b < 2; }")
	faults := testOf(t, "file f ;", "test t { write f 1; now $a; draw $b 5; }")
	faults.e = api.Env{Fault: 3, Skew: 8}
	found := testOf(t, "var x = 0;", "test t { if x { draw $a 4; } }")
	found.left = []api.Cell{{Name: "x", N: 1}}
	long := testOf(t, "test t { while 1 { draw $a 5; } }")
	for _, c := range []struct {
		x    test
		word []int
		want string
		e    api.Errno
	}{
		{draws, []int{2, 1}, "1/6", api.OK},
		{draws, []int{1}, "1/6", api.OK},
		{draws, make([]int, 160), "1/6", api.OK},
		{faults, nil, "13/160", api.OK},
		{faults, []int{1, 1, 4}, "3/160", api.OK},
		{faults, []int{1, 0, 2}, "3/160", api.OK},
		{found, []int{3}, "1/4", api.OK},
		{test{c: found.c}, nil, "1", api.OK},
		{testOf(t, "test t { check 0; }"), nil, "1", api.OK},
		// 5 to the power of 64
		{long, []int{4, 3}, "1/542101086242752217003726400434970855712890625", api.OK},
		{test{c: found.c}, []int{3}, "0", api.ErrMore},
		{draws, []int{3}, "0", api.ErrRange},
		{draws, []int{0, -1}, "0", api.ErrRange},
		{draws, []int{0, 0, 1}, "0", api.ErrMore},
		{draws, make([]int, 161), "0", api.ErrLimit},
		{test{c: draws.c, e: api.Env{Kind: 4}}, make([]int, 161), "0", api.ErrArg},
		{test{}, nil, "0", api.ErrArg},
		{test{c: draws.c, left: make([]api.Cell, 65)}, []int{9}, "0", api.ErrLimit},
	} {
		r, e := measure.Of(c.x.c, c.x.e, c.x.left, c.word)
		if s, f := ratio.Print(r); s != c.want || f != api.OK || e != c.e {
			t.Errorf("P11.2: Of %v: %s, %v; want %s, %v", c.word, s, e, c.want, c.e)
		}
	}
}

// TestEnvironments: what an environment does not bear on has no share in it.
func TestEnvironments(t *testing.T) {
	for _, c := range []struct {
		what    string
		further []string
		change  func(e *api.Env, n int)
	}{
		{"Kind", []string{onFiles, onClocks}, func(e *api.Env, n int) { e.Kind = n % api.MaxKinds }},
		{"Fault", []string{onMachines, onClocks}, func(e *api.Env, n int) { e.Fault = n }},
		{"Skew", []string{onMachines, onFiles}, func(e *api.Env, n int) { e.Skew = n }},
	} {
		seen := count{}
		for seed := range uint64(120) {
			m := newMaker(seed)
			x := testOf(t, m.texts(c.further...)...)
			x.e, x.left = m.env(), m.left()
			l, _, e := measure.Whole(x.c, x.e, x.left, 500)
			if e != api.OK {
				continue
			}
			seen["tests"]++
			for n := range api.MaxOdds + 1 {
				c.change(&x.e, n)
				if other, _ := x.whole(t); !measure.Same(l, other) {
					t.Fatalf("P11.9: the seed %d with the %s %d: %v; otherwise %v", seed, c.what, n, other, l)
				}
			}
		}
		seen.check(t, 80, "tests")
	}
}

// TestMemoryOfWhole: no part of a result is that of another one, or of an argument.
func TestMemoryOfWhole(t *testing.T) {
	for _, c := range writtenTests(t) {
		x := c.test
		left := slices.Clone(x.left)
		l, _ := x.whole(t)
		for i := range l {
			for _, limbs := range [][]uint32{l[i].Part.Num, l[i].Part.Den} {
				for j := range limbs {
					limbs[j] = 99
				}
			}
			if !measure.Same(l[i+1:], c.shares[i+1:]) {
				t.Errorf("the shares of %s share memory: %v", c.what, l)
			}
		}
		if again, _ := x.whole(t); !measure.Same(again, c.shares) || !slices.Equal(left, x.left) {
			t.Errorf("Whole of %s keeps or changes something", c.what)
		}
	}
}
