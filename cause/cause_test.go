package cause_test

import (
	"math"
	"slices"
	"strings"
	"testing"

	"culprit/api"
	"culprit/cause"
	"culprit/code"
	"culprit/play"
	"culprit/shrink"
)

var failed = shrink.Want{Outcome: api.Failed}

func choice(kind int, where string, pc, k, at int) cause.Cause {
	return cause.Cause{Kind: kind, Where: where, PC: pc, K: k, At: at}
}

func leftover(name string, n int) cause.Cause {
	return cause.Cause{Kind: cause.Leftover, K: n, At: -1, Name: name}
}

func (x test) find(w shrink.Want, word ...int) ([]cause.Cause, []int, api.Errno) {
	return cause.Find(x.c, x.e, x.left, w, word)
}

func (x test) show(y cause.Cause, word ...int) (play.Run, play.Run, api.Errno) {
	return cause.Show(x.c, x.e, x.left, word, y)
}

func (x test) check(w shrink.Want, l []cause.Cause, word ...int) api.Errno {
	return cause.Check(x.c, x.e, x.left, w, word, l)
}

func (x test) pin(word ...int) ([]cause.Cause, api.Errno) {
	return cause.Pin(x.c, x.e, x.left, word)
}

func (x test) pinned(pins ...cause.Cause) ([]int, api.Errno) {
	return cause.Pinned(x.c, x.e, x.left, pins)
}

// example is the test of the chapter's examples.
func example(t *testing.T) test {
	return testOf(t, "test t { draw $a 3; draw $b 2; check $a * $b < 2; }")
}

func TestExample(t *testing.T) {
	x := example(t)
	first, second := choice(cause.Number, "t", 0, 2, 0), choice(cause.Number, "t", 1, 1, 1)
	if l, word, e := x.find(failed, 2, 1); e != api.OK || !slices.Equal(l, []cause.Cause{first, second}) || !slices.Equal(word, []int{2, 1}) {
		t.Errorf("P15.1: Find of 2, 1: %v, %v, %v", l, word, e)
	}
	if a, b, e := x.show(first, 2, 1); e != api.OK || a.Result.Outcome != api.Failed || !slices.Equal(play.Word(b), []int{0, 1}) || b.Result.Outcome != api.Passed {
		t.Errorf("P15.2: Show of 2, 1 and the first cause: %v, %v, %v", a, b, e)
	}
	for _, word := range [][]int{{1, 0}, {1}} {
		l, e := x.pin(word...)
		if e != api.OK || !slices.Equal(l, []cause.Cause{choice(cause.Number, "t", 0, 1, 0)}) {
			t.Errorf("P15.4: Pin of %v: %v, %v", word, l, e)
		}
		if numbers, e := x.pinned(l...); e != api.OK || !slices.Equal(numbers, []int{1, 0}) {
			t.Errorf("P15.4: Pinned of %v: %v, %v", l, numbers, e)
		}
	}
	if numbers, e := x.pinned(choice(cause.Number, "t", 5, 1, 1)); e != api.ErrStale || len(numbers) != 0 {
		t.Errorf("P15.4: Pinned of another PC: %v, %v", numbers, e)
	}
}

func TestKinds(t *testing.T) {
	if l := []int{cause.Order, cause.Number, cause.Delivery, cause.Jump, cause.Loss, cause.Leftover, cause.Kinds}; !slices.Equal(l, []int{0, 1, 2, 3, 4, 5, 6}) {
		t.Errorf("P15.4: the kinds are %v", l)
	}
	for _, c := range []struct {
		x    test
		word []int
		want []cause.Cause
		all  []int
	}{
		// the thread 1 stands at the Put of the procedure that it has called, and then at the Back of its own
		{testOf(t, "var x = 0;", "proc q { x = 1; }", "proc p { call q; }", "test t { go p; $a = x; check $a < 1; }"), []int{1, 1}, []cause.Cause{choice(cause.Order, "q", 1, 1, 0), choice(cause.Order, "p", 1, 1, 1)}, []int{1, 1}},
		{testOf(t, "proc q { $z = 1; draw $a 6; }", "test t { call q; draw $b 2; }"), []int{5, 1}, []cause.Cause{choice(cause.Number, "q", 2, 5, 0), choice(cause.Number, "t", 1, 1, 1)}, []int{5, 1}},
		// a thread that is picked, and what it draws
		{testOf(t, "proc p { draw $a 3; }", "test t { go p; draw $b 2; }"), []int{1, 2}, []cause.Cause{choice(cause.Order, "p", 0, 1, 0), choice(cause.Number, "p", 0, 2, 1)}, []int{1, 2, 0, 0, 0}},
		// the third one of three receives, and is then the second one of two that can go on
		{testOf(t, "chan d 0;", "proc o { recv d $a; }", "test t { go o; go o; go o; send d 1; }"), []int{2, 1}, []cause.Cause{choice(cause.Delivery, "t", 4, 2, 0), choice(cause.Order, "o", 1, 1, 1)}, []int{2, 1}},
		{testOf(t, "test t { sleep 1; now $a; now $b; }").in(api.Env{Skew: 3}), []int{0, 1}, []cause.Cause{choice(cause.Jump, "t", 2, 1, 1)}, []int{0, 1}},
		{testOf(t, "file f ;", "proc q { write f 1; }", "test t { call q; write f 2; }").in(api.Env{Fault: 8}), []int{1, 1}, []cause.Cause{choice(cause.Loss, "q", 1, 1, 0), choice(cause.Loss, "t", 2, 1, 1)}, []int{1, 1}},
		{testOf(t, "test t { sleep 1; now $a; now $b; }"), nil, nil, nil},
		{testOf(t, "test t { draw $a 2; draw $b 2; }"), make([]int, 160), nil, []int{0, 0}},
	} {
		l, e := c.x.pin(c.word...)
		if e != api.OK || !slices.Equal(l, c.want) {
			t.Errorf("P15.4: Pin of %v: %v, %v; want %v", c.word, l, e, c.want)
		}
		if numbers, e := c.x.pinned(c.want...); e != api.OK || !slices.Equal(numbers, c.all) {
			t.Errorf("P15.4: Pinned of %v: %v, %v; want %v", c.want, numbers, e, c.all)
		}
	}
}

// TestFind: choices and leftovers, with and without which the want is shown.
func TestFind(t *testing.T) {
	sum := testOf(t, "test t { draw $a 6; draw $b 6; check $a + $b - 7; check $a + $b - 6; }")
	fewer := testOf(t, "test t { draw $a 2; if $a { draw $b 2; check $b < 1; } else { check 0; } }")
	other := testOf(t, "test t { draw $a 2; if $a { draw $b 3; check $b < 2; } else { draw $b 2; check $b; } }")
	found := testOf(t, "var b = 0;", "var ab = 0;", "rec r { n = 0; }", "file f ;", "test t { read f $f; check ab * b * r.n * $f == 0; }")
	more := testOf(t, "var x = 0;", "test t { if x { draw $a 2; } check $a < 1; }")
	both := testOf(t, "var x = 1;", "file f ;", "test t { read f $a; check $a + x < 5; }")
	both.c.Files[0] = "x" // a variable and a file of one name
	unsorted := []api.Cell{{Name: "r.n", N: 1}, {Name: "f", N: 2}, {Name: "b", N: 1}, {Name: "z", N: 9}, {Name: "ab", N: 3}, {Name: "ab", N: 0}, {Name: "", N: 1}, {Name: "b", N: 0}}
	many := slices.Clone(unsorted)
	for i := range 56 {
		many = append(many, api.Cell{Name: []string{"r.n", "f", "b", "ab"}[i%4], N: 50 + i})
	}
	for _, c := range []struct {
		x    test
		w    shrink.Want
		word []int
		want []cause.Cause
		end  []int
	}{
		{sum, failed, []int{4, 3}, []cause.Cause{choice(cause.Number, "t", 0, 3, 0), choice(cause.Number, "t", 1, 3, 1)}, []int{3, 3}},
		{sum, failed, []int{4, 3, 0}, []cause.Cause{choice(cause.Number, "t", 0, 3, 0), choice(cause.Number, "t", 1, 3, 1)}, []int{3, 3}},
		{sum, shrink.Want{Outcome: api.Passed}, []int{4, 4}, nil, nil},
		// without the first number the test fails, too, but at another place; the word 0, 1 is none of the code
		{fewer, failed, []int{1, 1}, []cause.Cause{choice(cause.Number, "t", 3, 1, 1)}, []int{1, 1}},
		{fewer, shrink.Want{Outcome: api.Failed, Where: "t"}, []int{1, 1}, []cause.Cause{choice(cause.Number, "t", 0, 1, 0), choice(cause.Number, "t", 3, 1, 1)}, []int{1, 1}},
		// without the first number, the second one is that of no alternative
		{other, failed, []int{1, 2}, []cause.Cause{choice(cause.Number, "t", 3, 2, 1)}, []int{1, 2}},
		{found.in(api.Env{}, unsorted...), failed, nil, []cause.Cause{leftover("ab", 3), leftover("b", 1), leftover("f", 2), leftover("r.n", 1)}, nil},
		{found.in(api.Env{}, unsorted[1:]...), shrink.Want{}, nil, nil, nil},
		{found.in(api.Env{}, many...), failed, nil, []cause.Cause{leftover("ab", 3), leftover("b", 1), leftover("f", 2), leftover("r.n", 1)}, nil},
		{more.in(api.Env{}, api.Cell{Name: "x", N: -2}), failed, []int{1}, []cause.Cause{choice(cause.Number, "t", 2, 1, 0), leftover("x", -2)}, []int{1}},
		{both.in(api.Env{}, api.Cell{Name: "x", N: 3}), failed, nil, []cause.Cause{leftover("x", 3)}, nil},
		// what is found is what would be there without it
		{both.in(api.Env{Kind: 3}, api.Cell{Name: "x", N: 1}), shrink.Want{}, nil, nil, nil},
	} {
		l, word, e := c.x.find(c.w, c.word...)
		if e != api.OK || !slices.Equal(l, c.want) || !slices.Equal(word, c.end) {
			t.Errorf("P15.1: Find of %v for %v with %v: %v, %v, %v; want %v, %v", c.word, c.w, c.x.left, l, word, e, c.want, c.end)
		}
		if e := c.x.check(c.w, c.want, c.end...); e != api.OK {
			t.Errorf("P15.3: Check of %v for %v with %v: %v", c.end, c.w, c.x.left, e)
		}
		if e := c.x.check(c.w, append(slices.Clone(c.want), leftover("z", 9)), c.end...); e != api.ErrProof {
			t.Errorf("P15.3: Check of %v for %v with another cause: %v", c.end, c.w, e)
		}
	}
}

// TestShow: what follows a word whose number is not there any more.
func TestShow(t *testing.T) {
	other := testOf(t, "test t { draw $a 2; if $a { draw $b 3; } else { draw $b 2; } draw $c 2; }")
	more := testOf(t, "test t { draw $a 2; if $a { $b = 1; } else { draw $b 2; } draw $c 2; }")
	fewer := testOf(t, "test t { draw $a 2; if $a { draw $b 2; } draw $c 2; }")
	left := testOf(t, "var x = 3;", "test t { if x == 2 { draw $a 2; } draw $b 3; }").in(api.Env{}, api.Cell{Name: "y", N: 1}, api.Cell{Name: "x", N: 2}, api.Cell{Name: "", N: 7}, api.Cell{Name: "x", N: 4})
	first := choice(cause.Number, "t", 0, 1, 0)
	for _, c := range []struct {
		x    test
		word []int
		y    cause.Cause
		want []int
	}{
		{other, []int{1, 2, 1}, first, []int{0, 0, 1}}, // the 2 is used up
		{other, []int{1, 1, 1}, first, []int{0, 1, 1}},
		{other, []int{1, 2, 1}, choice(cause.Number, "t", 3, 2, 1), []int{1, 0, 1}},
		{other, []int{1, 2, 1}, choice(cause.Number, "t", 6, 1, 2), []int{1, 2, 0}},
		{other, []int{0, 1, 1}, choice(cause.Number, "t", 5, 1, 1), []int{0, 0, 1}},
		{more, []int{1, 1}, first, []int{0, 1, 0}},
		{fewer, []int{1, 0, 1}, first, []int{0, 0}},
		{fewer, []int{1, 1, 1, 0, 0}, first, []int{0, 1}},
		{left, []int{1, 1}, leftover("x", 2), []int{1}}, // all cells of this name are left out
		{left, []int{1, 1}, leftover("y", 1), []int{1, 1}},
		{left, []int{1, 1}, leftover("", 7), []int{1, 1}},
		{left, []int{0, 2}, leftover("x", 2), []int{0}},
	} {
		run, _ := play.Play(c.x.c, c.x.e, c.x.left, c.word)
		a, b, e := c.x.show(c.y, c.word...)
		if e != api.OK || !play.Same(a, run) || !slices.Equal(play.Word(b), c.want) {
			t.Errorf("P15.2: Show of %v and %v: %v, %v, %v; want %v", c.word, c.y, a, b, e, c.want)
		}
		from := c.x.left
		if c.y.Name == "x" {
			from = []api.Cell{{Name: "x", N: 3}}
		}
		if run, e = play.Play(c.x.c, c.x.e, from, c.want); e != api.OK || !play.Same(b, run) {
			t.Errorf("P15.2: Show of %v and %v: %v, and by its word %v, %v", c.word, c.y, b, run, e)
		}
	}
	if _, b, e := left.show(choice(cause.Number, "t", 4, 1, 0), 1, 0); e != api.OK || !slices.Equal(play.Word(b), []int{0, 0}) {
		t.Errorf("P15.2: Show of 1, 0: %v, %v", b, e)
	}
	for _, y := range []cause.Cause{leftover("x", 4), leftover("x", 3), leftover("z", 0), leftover("y", 2), {}, {At: -1}, {Kind: cause.Leftover, K: 1, Name: "y"}, {Kind: cause.Leftover, PC: 1, K: 1, At: -1, Name: "y"}, {Kind: cause.Leftover, Where: "t", K: 1, At: -1, Name: "y"},
		choice(cause.Number, "t", 5, 0, 1), choice(cause.Number, "t", 5, 1, 1), choice(cause.Number, "t", 5, 1, 0), choice(cause.Number, "t", 4, 2, 0), choice(cause.Number, "u", 4, 1, 0), choice(cause.Number, "t", 4, 1, math.MaxInt), choice(cause.Number, "t", 4, 1, math.MinInt), choice(cause.Leftover, "t", 4, 1, 0), choice(cause.Order, "t", 4, 1, 0), choice(-1, "t", 4, 1, 0)} {
		if a, b, e := left.show(y, 1, 0); e != api.ErrArg || !play.Same(a, play.Run{}) || !play.Same(b, play.Run{}) {
			t.Errorf("P15.2: Show of 1, 0 and %v: %v, %v, %v", y, a, b, e)
		}
	}
}

// TestCheck: words that are not locally least, and lists that are not the causes.
func TestCheck(t *testing.T) {
	x := example(t)
	first, second := choice(cause.Number, "t", 0, 2, 0), choice(cause.Number, "t", 1, 1, 1)
	for _, c := range []struct {
		w    shrink.Want
		word []int
		l    []cause.Cause
		want api.Errno
	}{
		{failed, []int{2, 1}, []cause.Cause{first, second}, api.OK},
		{failed, []int{2, 1}, []cause.Cause{second, first}, api.ErrProof},
		{failed, []int{2, 1}, []cause.Cause{first}, api.ErrProof},
		{failed, []int{2, 1}, []cause.Cause{first, second, second}, api.ErrProof},
		{failed, []int{2, 1}, nil, api.ErrProof},
		{failed, []int{2, 1, 0}, []cause.Cause{first, second}, api.ErrProof}, // it is not trimmed
		{shrink.Want{}, nil, nil, api.OK},
		{shrink.Want{}, nil, []cause.Cause{}, api.OK},
		{shrink.Want{}, nil, []cause.Cause{{}}, api.ErrProof},
		{shrink.Want{}, []int{2}, nil, api.ErrProof}, // it is not locally least, and nothing is a cause
		{failed, nil, nil, api.ErrProof},             // it does not show it
		{failed, []int{3}, nil, api.ErrRange},
		{failed, []int{0, 0, 1}, nil, api.ErrMore},
	} {
		if e := x.check(c.w, c.l, c.word...); e != c.want {
			t.Errorf("P15.3: Check of %v and %v for %v: %v; want %v", c.word, c.l, c.w, e, c.want)
		}
	}
}

// TestPinned: pins that are not in order, or belong to other choices.
func TestPinned(t *testing.T) {
	x := example(t)
	first, second := choice(cause.Number, "t", 0, 2, 0), choice(cause.Number, "t", 1, 1, 1)
	with := func(y cause.Cause, f func(y *cause.Cause)) cause.Cause {
		f(&y)
		return y
	}
	for _, c := range []struct {
		pins []cause.Cause
		want []int
		e    api.Errno
	}{
		{nil, []int{0, 0}, api.OK},
		{[]cause.Cause{first, second}, []int{2, 1}, api.OK},
		{[]cause.Cause{second}, []int{0, 1}, api.OK},
		{[]cause.Cause{choice(cause.Number, "t", 0, 0, 0), choice(cause.Number, "t", 1, 0, 1)}, []int{0, 0}, api.OK}, // a pin may say 0, too
		{[]cause.Cause{second, first}, nil, api.ErrArg},
		{[]cause.Cause{first, first}, nil, api.ErrArg},
		{[]cause.Cause{with(first, func(y *cause.Cause) { y.At = -1 }), second}, nil, api.ErrArg},
		{[]cause.Cause{with(first, func(y *cause.Cause) { y.At = math.MinInt })}, nil, api.ErrArg},
		{[]cause.Cause{with(first, func(y *cause.Cause) { y.At = math.MaxInt }), first}, nil, api.ErrArg},
		{[]cause.Cause{with(first, func(y *cause.Cause) { y.K = 9 }), first}, nil, api.ErrArg}, // although the first one is stale
		{[]cause.Cause{leftover("x", 1)}, nil, api.ErrArg},
		{[]cause.Cause{first, second, choice(cause.Number, "t", 2, 0, 2)}, nil, api.ErrStale},
		{[]cause.Cause{with(first, func(y *cause.Cause) { y.At = math.MaxInt })}, nil, api.ErrStale},
		{[]cause.Cause{with(first, func(y *cause.Cause) { y.At = 1 })}, nil, api.ErrStale},
		{[]cause.Cause{with(first, func(y *cause.Cause) { y.Kind = cause.Order })}, nil, api.ErrStale},
		{[]cause.Cause{with(first, func(y *cause.Cause) { y.Kind = cause.Leftover })}, nil, api.ErrStale},
		{[]cause.Cause{with(first, func(y *cause.Cause) { y.Where = "" })}, nil, api.ErrStale},
		{[]cause.Cause{with(first, func(y *cause.Cause) { y.PC = 1 })}, nil, api.ErrStale},
		{[]cause.Cause{with(first, func(y *cause.Cause) { y.K = 3 })}, nil, api.ErrStale},
		{[]cause.Cause{with(first, func(y *cause.Cause) { y.K = -1 })}, nil, api.ErrStale},
		{[]cause.Cause{with(first, func(y *cause.Cause) { y.K = math.MaxInt })}, nil, api.ErrStale},
		{[]cause.Cause{with(first, func(y *cause.Cause) { y.Name = "t" })}, nil, api.ErrStale},
		{[]cause.Cause{first, with(second, func(y *cause.Cause) { y.K = 2 })}, nil, api.ErrStale},
	} {
		if numbers, e := x.pinned(c.pins...); e != c.e || !slices.Equal(numbers, c.want) {
			t.Errorf("P15.4: Pinned of %v: %v, %v; want %v, %v", c.pins, numbers, e, c.want, c.e)
		}
	}
}

// TestPinnedElsewhere: the choices are those of the run with the pins, which can be others than those of the run without one of them.
func TestPinnedElsewhere(t *testing.T) {
	moved := testOf(t, "test t { draw $a 2; if $a { draw $b 2; } draw $c 2; }")
	pins := []cause.Cause{choice(cause.Number, "t", 0, 1, 0), choice(cause.Number, "t", 4, 1, 2)}
	if numbers, e := moved.pinned(pins...); e != api.OK || !slices.Equal(numbers, []int{1, 0, 1}) {
		t.Errorf("P15.4: Pinned of %v: %v, %v", pins, numbers, e)
	}
	if numbers, e := moved.pinned(pins[1]); e != api.ErrStale || len(numbers) != 0 {
		t.Errorf("P15.4: Pinned of %v alone: %v, %v", pins[1], numbers, e)
	}
	// what is left leads to other choices
	stale := testOf(t, "var x = 0;", "test t { if x { draw $a 2; } draw $b 2; }")
	pin := choice(cause.Number, "t", 3, 1, 0)
	if numbers, e := stale.pinned(pin); e != api.OK || !slices.Equal(numbers, []int{1}) {
		t.Errorf("P15.4: Pinned of %v: %v, %v", pin, numbers, e)
	}
	if numbers, e := stale.in(api.Env{}, api.Cell{Name: "x", N: 1}).pinned(pin); e != api.ErrStale || len(numbers) != 0 {
		t.Errorf("P15.4: Pinned of %v with what is left: %v, %v", pin, numbers, e)
	}
}

// TestErrors: which one comes first.
func TestErrors(t *testing.T) {
	x := example(t)
	wrong := x
	wrong.c.Begins = []int{1}
	broken := x
	broken.c.Instrs = slices.Insert(slices.Clone(x.c.Instrs), 1, api.Instr{Op: code.Ops})
	cells := make([]api.Cell, 65)
	for _, c := range []struct {
		x           test
		word        []int
		start, play api.Errno
	}{
		{test{}, make([]int, 161), api.ErrArg, api.ErrArg},
		{wrong.in(api.Env{Kind: 9}), []int{9}, api.ErrArg, api.ErrArg},
		{broken.in(api.Env{Kind: 9}, cells...), []int{9}, api.ErrForm, api.ErrForm},
		{x.in(api.Env{Kind: 4}, cells...), []int{9}, api.ErrArg, api.ErrArg},
		{x.in(api.Env{Fault: 9}), nil, api.ErrArg, api.ErrArg},
		{x.in(api.Env{Skew: -1}), nil, api.ErrArg, api.ErrArg},
		{x.in(api.Env{}, cells...), []int{9}, api.ErrLimit, api.ErrLimit},
		{x, append(make([]int, 160), 1), api.OK, api.ErrLimit},
		{x, []int{3}, api.OK, api.ErrRange},
		{x, []int{-1, 0, 1}, api.OK, api.ErrRange},
		{x, []int{2, math.MaxInt}, api.OK, api.ErrRange},
		{x, []int{0, 0, 1}, api.OK, api.ErrMore},
		{x, []int{2, 1, 0, -1}, api.OK, api.ErrMore},
	} {
		if _, e := play.Play(c.x.c, c.x.e, c.x.left, c.word); e != c.play {
			t.Fatal(e)
		}
		for _, w := range []shrink.Want{failed, {}, {Outcome: -1}} {
			if l, word, e := c.x.find(w, c.word...); e != c.play || len(l)+len(word) != 0 {
				t.Errorf("P15.1: Find of %v in %v: %v, %v, %v; want %v", c.word, c.x.e, l, word, e, c.play)
			}
			if e := c.x.check(w, nil, c.word...); e != c.play {
				t.Errorf("P15.3: Check of %v in %v: %v; want %v", c.word, c.x.e, e, c.play)
			}
		}
		if a, b, e := c.x.show(cause.Cause{}, c.word...); e != c.play || !play.Same(a, play.Run{}) || !play.Same(b, play.Run{}) {
			t.Errorf("P15.2: Show of %v in %v: %v, %v, %v; want %v", c.word, c.x.e, a, b, e, c.play)
		}
		if l, e := c.x.pin(c.word...); e != c.play || len(l) != 0 {
			t.Errorf("P15.4: Pin of %v in %v: %v, %v; want %v", c.word, c.x.e, l, e, c.play)
		}
		if numbers, e := c.x.pinned(); e != c.start || e != api.OK && len(numbers) != 0 {
			t.Errorf("P15.4: Pinned in %v: %v, %v; want %v", c.x.e, numbers, e, c.start)
		}
		if numbers, e := c.x.pinned(cause.Cause{At: -1}); e != api.ErrArg || len(numbers) != 0 {
			t.Errorf("P15.4: Pinned of a pin with At -1 in %v: %v, %v", c.x.e, numbers, e)
		}
		want := c.start
		if want == api.OK {
			want = api.ErrStale
		}
		if numbers, e := c.x.pinned(cause.Cause{At: 3}); e != want || len(numbers) != 0 {
			t.Errorf("P15.4: Pinned of a pin with At 3 in %v: %v, %v; want %v", c.x.e, numbers, e, want)
		}
	}
	for _, word := range [][]int{nil, {1, 1}, {2, 0, 0}} {
		if l, least, e := x.find(failed, word...); e != api.ErrArg || len(l)+len(least) != 0 {
			t.Errorf("P15.1: Find of %v, which passes: %v, %v, %v", word, l, least, e)
		}
	}
}

// TestLongRun: as many steps and choices as a run can have, with as much left as it can find.
func TestLongRun(t *testing.T) {
	x := testOf(t, "var x = 0;", "proc p { while 1 { draw $a 6; } }", "test t { go p; while x < 62 { draw $a 6; $n = $n + $a; } check $n < 155; }")
	for i := range 64 {
		x.left = append(x.left, api.Cell{Name: strings.Repeat("n", 63-i), N: i})
	}
	var word []int
	for range 31 {
		word = append(word, 1, 5)
	}
	pins, e := x.pin(word...)
	if e != api.OK || len(pins) != 62 {
		t.Fatalf("P15.4: Pin of a long run: %d, %v", len(pins), e)
	}
	for i, y := range pins {
		if want := []cause.Cause{choice(cause.Order, "p", 2, 1, i), choice(cause.Number, "p", 2, 5, i)}[i%2]; y != want {
			t.Errorf("P15.4: Pin of a long run, %d: %v; want %v", i, y, want)
		}
	}
	run, _ := play.Play(x.c, x.e, x.left, word)
	if numbers, e := x.pinned(pins...); e != api.OK || !slices.Equal(numbers, play.Word(run)) || len(numbers) < 100 {
		t.Errorf("P15.4: Pinned of a long run: %v, %v", numbers, e)
	}
	if _, b, e := x.show(leftover("", 63), word...); e != api.OK || !slices.Equal(play.Word(b), play.Word(run)) {
		t.Errorf("P15.2: Show of a long run: %v", e)
	}
}
