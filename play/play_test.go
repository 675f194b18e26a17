package play_test

import (
	"encoding/hex"
	"math"
	"slices"
	"strconv"
	"strings"
	"testing"

	"culprit/api"
	"culprit/code"
	"culprit/machine"
	"culprit/play"
)

// compiled returns the code of the test t of some texts.
func compiled(t *testing.T, texts ...string) code.Code {
	t.Helper()
	var l []api.Def
	for _, text := range texts {
		l = append(l, def(strings.TrimSuffix(strings.Fields(text)[1], ";"), text))
	}
	c, e := code.Compile(l, "t")
	if e != api.OK {
		t.Fatal(e, texts)
	}
	return c
}

func draws(t *testing.T) started {
	return started{c: compiled(t, "test t { draw $a 3; draw $b 2; check $a * $b < 2; }")}
}

// noughts returns a word of noughts, but for its last numbers.
func noughts(n int, last ...int) []int { return append(make([]int, n), last...) }

// accessesOf returns what the steps of a run access as words, such as "var0 lock1!", with "!" for a change and "|" between two steps.
func accessesOf(r play.Run) string {
	kinds := []string{"var", "chan", "lock", "file", "clock", "threads"}
	var steps []string
	for _, l := range r.Access {
		var words []string
		for _, x := range l {
			word := kinds[x.Kind] + strconv.Itoa(x.Obj)
			if x.Change {
				word += "!"
			}
			words = append(words, word)
		}
		steps = append(steps, strings.Join(words, " "))
	}
	return strings.Join(steps, " | ")
}

func numbers(l []int) string {
	var words []string
	for _, n := range l {
		words = append(words, strconv.Itoa(n))
	}
	return strings.Join(words, " ")
}

func cells(l []api.Cell) string {
	var words []string
	for _, x := range l {
		words = append(words, x.Name+"="+strconv.Itoa(x.N))
	}
	return strings.Join(words, " ")
}

// TestRuns: runs with choices of all kinds and all outcomes, written out.
func TestRuns(t *testing.T) {
	const twoDraws = "test t { draw $a 3; draw $b 2; check $a * $b < 2; }"
	race := []string{"var x = 0;", "chan c 1;", "proc p { x = x + 1; send c 1; }", "test t { go p; x = x + 1; recv c $a; check x == 2; }"}
	faults := []string{"file f;", "test t { write f 7; now $a; read f $b; check $b == 7; }"}
	for _, c := range []struct {
		what    string
		texts   []string
		env     api.Env
		left    []api.Cell
		word    []int
		printed string
		threads string
		access  string
		behind  string
		full    []int
		cost    api.Cost
	}{
		{what: "draws", texts: []string{twoDraws}, printed: "draw 0 of 3 by 0 at 0; draw 0 of 2 by 0 at 1; passed after 3 steps", threads: "0 0 0", access: "threads1! | threads1! | threads0! threads1!", full: []int{0, 0}, cost: api.Cost{Steps: 3}},
		{what: "the first draw", texts: []string{twoDraws}, word: []int{1}, printed: "draw 1 of 3 by 0 at 0; draw 0 of 2 by 0 at 1; passed after 3 steps", threads: "0 0 0", access: "threads1! | threads1! | threads0! threads1!", full: []int{1, 0}, cost: api.Cost{Steps: 3}},
		{what: "both draws", texts: []string{twoDraws}, word: []int{2, 1}, printed: "draw 2 of 3 by 0 at 0; draw 1 of 2 by 0 at 1; failed at t/0 after 2 steps", threads: "0 0", access: "threads1! | threads1!", full: []int{2, 1}, cost: api.Cost{Steps: 2}},
		{what: "a race", texts: race, word: []int{0, 1, 1}, printed: "pick 0 of 2; pick 1 of 2; pick 1 of 2; pick 0 of 2; pick 0 of 2; pick 0 of 2; failed at t/0 after 8 steps", threads: "0 0 1 1 0 1 0 0", access: "threads0! threads1! threads2! | var0 threads1! | var0 threads2! | var0! threads2! | var0! threads1! | chan0! threads2! | chan0! threads1! | var0 threads1!", behind: "x=1", full: []int{0, 1, 1, 0, 0, 0}, cost: api.Cost{Steps: 8}},
		{what: "a draw of a thread that is picked", texts: []string{"var x = 0;", "proc p { draw $a 4; }", "test t { go p; x = 1; }"}, word: []int{1, 3}, printed: "pick 1 of 2; draw 3 of 4 by 1 at 0; pick 0 of 2; pick 0 of 2; passed after 4 steps", threads: "0 1 0 0", access: "threads0! threads1! threads2! | threads2! | var0! threads1! | threads0! threads1!", behind: "x=1", full: []int{1, 3, 0, 0}, cost: api.Cost{Steps: 4}},
		{what: "two receivers", texts: []string{"chan c 0;", "proc p { recv c $a; }", "test t { go p; go p; sleep 3; send c 1; sleep 3; }"}, word: []int{1}, printed: "deliver 1 of 2 by 0 at 6; passed after 7 steps", threads: "0 0 0 0 2 0 0", access: "chan0! threads0! threads1! threads2! | chan0! clock0 threads0! threads1! threads3! | clock0 threads1! | chan0! clock0 threads1! threads3! | threads0! threads3! | clock0 threads1! | threads0! threads1!", full: []int{1}, cost: api.Cost{Steps: 7}},
		{what: "the clock jumps", texts: faults, env: api.Env{Fault: 3, Skew: 2}, word: []int{0, 1}, printed: "lose 0 of 2 by 0 at 1; jump 1 of 2 by 0 at 2; passed after 4 steps", threads: "0 0 0 0", access: "file0! threads1! | clock0! threads1! | file0 threads1! | threads0! threads1!", behind: "f=7", full: []int{0, 1}, cost: api.Cost{Steps: 4}},
		{what: "a write is lost", texts: faults, env: api.Env{Fault: 3, Skew: 2}, left: []api.Cell{{Name: "f", N: 5}}, word: []int{1}, printed: "lose 1 of 2 by 0 at 1; jump 0 of 2 by 0 at 2; failed at t/0 after 3 steps", threads: "0 0 0", access: "file0! threads1! | clock0 threads1! | file0 threads1!", behind: "f=5", full: []int{1, 0}, cost: api.Cost{Steps: 3}},
		{what: "no choices in another environment", texts: faults, printed: "passed after 4 steps", threads: "0 0 0 0", access: "file0! threads1! | clock0 threads1! | file0 threads1! | threads0! threads1!", behind: "f=7", cost: api.Cost{Steps: 4}},
		{what: "nobody releases", texts: []string{"lock l;", "test t { acquire l; acquire l; }"}, printed: "stuck at t/1 after 1 steps", threads: "0", access: "lock0! threads1!", cost: api.Cost{Steps: 1, Waits: 1}},
		{what: "no end", texts: []string{"var x = 0;", "test t { while 1 { x = x + 1; } }"}, printed: "late at t/2 after 64 steps", threads: strings.Repeat("0 ", 63) + "0", access: strings.Repeat("var0 threads1! | var0! threads1! | ", 31) + "var0 threads1! | var0! threads1!", behind: "x=32", cost: api.Cost{Steps: 64}},
		{what: "no step and no end", texts: []string{"test t { alloc 9; while 1 { } }"}, printed: "late at t/1 after 0 steps", cost: api.Cost{Allocs: 9}},
		{what: "a step that cannot be done", texts: []string{"lock l;", "test t { release l; }"}, printed: "broken at t/0 after 0 steps", threads: "0", access: "lock0! threads1!"},
		{what: "a 17th value", texts: []string{"var x = 0;", "test t { x = 1; x = " + deep(17) + "; }"}, printed: "broken at t/18 after 1 steps", threads: "0", access: "var0! threads1!", behind: "x=1", cost: api.Cost{Steps: 1}},
		{what: "over at once", texts: []string{"test t { check 1; check 0; }"}, printed: "failed at t/1 after 0 steps"},
		{what: "nothing", texts: []string{"test t { }"}, printed: "passed after 1 steps", threads: "0", access: "threads0! threads1!", cost: api.Cost{Steps: 1}},
		{what: "what is left", texts: []string{"var x = 2;", "file f;", "test t { x = x + 1; read f $a; }"}, left: []api.Cell{{Name: "x", N: 6}, {Name: "x", N: 8}, {Name: "y", N: 1}, {Name: "f", N: -3}}, printed: "passed after 4 steps", threads: "0 0 0 0", access: "var0 threads1! | var0! threads1! | file0 threads1! | threads0! threads1!", behind: "f=-3 x=7", cost: api.Cost{Steps: 4}},
	} {
		x := started{compiled(t, c.texts...), c.env, c.left}
		r := x.play(t, c.word)
		if got := strings.Join(play.Print(r), "; "); got != c.printed || r.Result.Cost != c.cost {
			t.Errorf("P10.1: %s: %s with %v; want %s with %v", c.what, got, r.Result.Cost, c.printed, c.cost)
		}
		if numbers(r.Threads) != c.threads || accessesOf(r) != c.access || cells(r.Left) != c.behind {
			t.Errorf("P10.1: %s: threads %s, accesses %s, left %s; want %s, %s, %s", c.what, numbers(r.Threads), accessesOf(r), cells(r.Left), c.threads, c.access, c.behind)
		}
		if !slices.Equal(play.Word(r), c.full) {
			t.Errorf("P10.4: %s: the word is %v; want %v", c.what, play.Word(r), c.full)
		}
	}
}

// TestPoints: the choices of a run have the points at which they were made.
func TestPoints(t *testing.T) {
	x := started{c: compiled(t, "file f;", "proc p { draw $b 2; }", "test t { write f 1; now $a; go p; go p; }"), e: api.Env{Fault: 1, Skew: 8}}
	r := x.play(t, []int{1, 0, 1, 0, 1})
	want := []play.Move{
		{Point: machine.Point{Kind: machine.Loses, Thread: 0, PC: 3, Parts: []int{15, 1}}, K: 1},
		{Point: machine.Point{Kind: machine.Jumps, Thread: 0, PC: 4, Parts: []int{8, 8}}, K: 0},
		{Point: machine.Point{Kind: machine.Pick, Thread: -1, PC: -1, Parts: []int{1, 1}}, K: 1},
		{Point: machine.Point{Kind: machine.Draws, Thread: 1, PC: 0, Parts: []int{1, 1}}, K: 0},
		{Point: machine.Point{Kind: machine.Pick, Thread: -1, PC: -1, Parts: []int{1, 1}}, K: 1},
	}
	if n := len(want); len(r.Moves) < n || !play.Same(play.Run{Moves: r.Moves[:n]}, play.Run{Moves: want}) {
		t.Errorf("P10.1: the choices are %v; want %v", r.Moves, want)
	}
}

// refused expects an error of Play and States, and nothing beside it.
func (x started) refused(t *testing.T, word []int, want api.Errno) {
	t.Helper()
	r, e := play.Play(x.c, x.e, x.left, word)
	if e != want || show(r) != show(play.Run{}) {
		t.Errorf("P10.1: Play of %v: %v, %s; want %v", word, e, show(r), want)
	}
	l, e := play.States(x.c, x.e, x.left, word)
	if e != want || len(l) != 0 {
		t.Errorf("P10.1: States of %v: %v, %d states; want %v", word, e, len(l), want)
	}
}

func TestWordsThatAreNone(t *testing.T) {
	x := draws(t)
	for _, odd := range []int{3, 4, -1, math.MinInt, math.MaxInt} {
		x.refused(t, []int{odd}, api.ErrRange)
		x.refused(t, []int{1, odd}, api.ErrRange)
		x.refused(t, []int{odd, odd, odd}, api.ErrRange)
		x.refused(t, []int{0, odd, 1}, api.ErrRange)
		x.refused(t, []int{2, 1, odd}, api.ErrMore)
		x.refused(t, noughts(2, 0, odd), api.ErrMore)
		x.refused(t, noughts(2, odd, 0), api.ErrMore)
		x.refused(t, noughts(159, odd), api.ErrMore)
		x.refused(t, append([]int{odd}, noughts(159)...), api.ErrRange)
		x.refused(t, append([]int{odd}, noughts(160)...), api.ErrLimit)
		x.refused(t, noughts(160, odd), api.ErrLimit)
	}
	x.refused(t, []int{0, 2}, api.ErrRange)
	x.refused(t, noughts(161), api.ErrLimit)
	x.refused(t, noughts(5000), api.ErrLimit)
	x.play(t, noughts(160))
	x.play(t, append([]int{2, 1}, noughts(158)...))
	// Without choices no number is used.
	for _, text := range []string{"test t { check 0; }", "test t { }", "test t { alloc 1; sleep 3; now $a; }"} {
		x = started{c: compiled(t, text)}
		x.play(t, nil)
		x.play(t, noughts(160))
		x.refused(t, []int{1}, api.ErrMore)
		x.refused(t, []int{-1}, api.ErrMore)
		x.refused(t, noughts(159, 1), api.ErrMore)
	}
}

// TestErrorsOfStart: they are ahead of those of the word.
func TestErrorsOfStart(t *testing.T) {
	good := draws(t)
	long := make([]api.Cell, 65)
	for _, c := range []struct {
		what string
		x    started
		want api.Errno
	}{
		{"a code with too many instructions", started{c: code.Code{Instrs: make([]api.Instr, 513)}, e: api.Env{Kind: 4}, left: long}, api.ErrLimit},
		{"the zero code", started{e: api.Env{Kind: -1}, left: long}, api.ErrArg},
		{"a code without a beginning", started{c: code.Code{Instrs: good.c.Instrs, Locals: good.c.Locals, Names: good.c.Names}}, api.ErrArg},
		{"a code without an end", started{c: code.Code{Instrs: []api.Instr{{Op: code.Back}}, Begins: []int{0}, Locals: []int{0}, Names: []string{"t"}}, e: api.Env{Kind: 9}}, api.ErrForm},
		{"a kind that is too great", started{c: good.c, e: api.Env{Kind: 4}, left: long}, api.ErrArg},
		{"a negative kind", started{c: good.c, e: api.Env{Kind: -1}}, api.ErrArg},
		{"a fault that is too great", started{c: good.c, e: api.Env{Fault: 9}}, api.ErrArg},
		{"a skew that is too great", started{c: good.c, e: api.Env{Skew: math.MaxInt}}, api.ErrArg},
		{"too much is left", started{c: good.c, left: long}, api.ErrLimit},
	} {
		for _, word := range [][]int{nil, {3}, {0, 0, 1}, noughts(161)} {
			c.x.refused(t, word, c.want)
		}
		word, e := play.Seeded(c.x.c, c.x.e, c.x.left, 1)
		if e != c.want || len(word) != 0 {
			t.Errorf("P10.2: Seeded with %s: %v, %v; want %v", c.what, word, e, c.want)
		}
	}
	good.left = long[:64]
	good.play(t, noughts(160))
	good.refused(t, noughts(161), api.ErrLimit)
	good.seeded(t, 1)
}

// TestManyChoices: each number of a long word counts.
func TestManyChoices(t *testing.T) {
	x := started{c: compiled(t, "proc p { while 1 { draw $a 6; } }", "test t { go p; while 1 { draw $a 6; } }")}
	var word []int
	for i := range 126 { // behind the Go, two for each step
		word = append(word, []int{i / 2 % 2, 1 + i%5}[i%2])
	}
	r := x.play(t, word)
	if r.Result.Outcome != api.Late || r.Result.Cost.Steps != 64 || !slices.Equal(play.Word(r), word) || len(x.states(t, word)) != 128 {
		t.Errorf("P10.1: the run by %v: %s", word, show(r))
	}
	for i, m := range r.Moves {
		if want := []int{machine.Pick, machine.Draws}[i%2]; m.Point.Kind != want || i%2 == 1 && m.Point.Thread != word[i-1] {
			t.Errorf("P10.1: the choice %d is %v", i, m)
		}
	}
	for i := range 126 {
		odd := slices.Clone(word)
		odd[i] = 6
		x.refused(t, odd, api.ErrRange)
	}
	for n := 126; n < 160; n++ {
		x.play(t, append(slices.Clone(word), noughts(n-125)...)[:n])
		x.refused(t, append(slices.Clone(word), noughts(n-126, 1)...), api.ErrMore)
	}
}

func TestStatesOfAnExample(t *testing.T) {
	x := started{c: compiled(t, "var x = 0;", "proc p { }", "test t { go p; x = 1; x = 2; }")}
	l := x.states(t, []int{1})
	want := [][3]int{{-1, 0, 0}, {-1, 0, 1}, {1, 0, 1}, {-1, 0, 2}, {-1, 1, 3}, {-1, 2, 4}, {-1, 2, 5}}
	if len(l) != len(want) {
		t.Fatalf("P10.1: %d states", len(l))
	}
	for i, s := range l {
		if got := [3]int{s.Picked, s.Vars[0], s.Cost.Steps}; got != want[i] {
			t.Errorf("P10.1: the state %d has Picked, x and Steps %v; want %v", i, got, want[i])
		}
	}
}

// TestRootOfRuns compares with digests of a separate calculation.
func TestRootOfRuns(t *testing.T) {
	for _, c := range []struct {
		texts []string
		word  []int
		want  string
	}{
		{[]string{"test t { draw $a 3; draw $b 2; check $a * $b < 2; }"}, []int{2, 1}, "679632858a484b4813a3560d0ff87504"},
		{[]string{"test t { check 0; }"}, nil, "67b06d436f6fe2dad5546dee9c623fa2"},
		{[]string{"var x = 0;", "proc p { }", "test t { go p; x = 1; x = 2; }"}, []int{1}, "4f78b1a3e37925afdc73f61d002db7ee"},
	} {
		x := started{c: compiled(t, c.texts...)}
		if got := x.play(t, c.word).Result.Root; hex.EncodeToString(got[:]) != c.want {
			t.Errorf("P10.1: the root of the run by %v of %v: %x; want %s", c.word, c.texts, got, c.want)
		}
		if got, e := play.Root(x.states(t, c.word)); e != api.OK || hex.EncodeToString(got[:]) != c.want {
			t.Errorf("P10.3: Root of %v: %x, %v; want %s", c.texts, got, e, c.want)
		}
	}
}

// TestRoot compares with digests of a separate calculation; the states need not be valid.
func TestRoot(t *testing.T) {
	states := func(n int) []machine.State {
		l := make([]machine.State, n)
		for i := range l {
			l[i].Cost.Steps = i
		}
		return l
	}
	for n, want := range map[int]string{
		1: "e11d30e8a925781ddfbf332296e8bed0", 2: "2e4eccf5356c77aab031bdfc26520715", 3: "bb2ce8ba056dac5e005240271b4ecbef",
		10: "dad7ae4895589cb37ee0afe39b34b608", 11: "248e2d7dc73cf12f05a246a595e37ca8", 100: "184336a50618eb423900819cbdd12134",
		101: "b0b1c3fa964e42bf28433dfe67d69cff", 1000: "9502c267dc3d32c6a1d2f0b2aba4d33a",
	} {
		if got, e := play.Root(states(n)); e != api.OK || hex.EncodeToString(got[:]) != want {
			t.Errorf("P10.3: Root of %d states: %x, %v; want %s", n, got, e, want)
		}
	}
	for _, n := range []int{0, 1001, 1002, 4097} {
		want := api.ErrLimit
		if n == 0 {
			want = api.ErrArg
		}
		if got, e := play.Root(states(n)); e != want || got != (api.Digest{}) {
			t.Errorf("P10.3: Root of %d states: %x, %v; want %v", n, got, e, want)
		}
	}
	l := states(20)
	root, _ := play.Root(l)
	slices.Reverse(l)
	if other, _ := play.Root(l); other == root {
		t.Error("P10.3: states in another order have the same root")
	}
}
