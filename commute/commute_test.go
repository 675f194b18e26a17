package commute_test

import (
	"math"
	"slices"
	"strings"
	"testing"

	"culprit/api"
	"culprit/commute"
	"culprit/machine"
)

func (x test) in(e api.Env, left ...api.Cell) test { return test{x.c, e, left} }

// example is the test of the chapter's examples.
func example(t *testing.T) test {
	return testOf(t, "var a = 0;", "var b = 0;", "proc p { a = 1; }", "test t { go p; b = 2; }")
}

// accessesOf returns accesses that are written such as "var0 lock1!", with "!" for a change.
func accessesOf(t *testing.T, text string) []machine.Access {
	t.Helper()
	kinds := strings.Fields("var chan lock file clock threads")
	var l []machine.Access
	for _, word := range strings.Fields(text) {
		name, change := strings.CutSuffix(word, "!")
		kind := slices.Index(kinds, name[:len(name)-1])
		if kind < 0 {
			t.Fatal(text)
		}
		l = append(l, machine.Access{Kind: kind, Obj: int(name[len(name)-1] - '0'), Change: change})
	}
	return l
}

func TestApart(t *testing.T) {
	for _, c := range []struct {
		a, b string
		want bool
	}{
		{"", "", true}, {"var0", "", true}, {"var0!", "", true},
		{"var0", "var0", true}, {"var0!", "var0", false}, {"var0!", "var0!", false}, {"var0!", "var1!", true}, {"var0!", "var1", true},
		{"var0!", "chan0!", true}, {"chan0!", "lock0!", true}, {"lock0!", "file0!", true}, {"file0!", "threads0!", true}, {"threads0!", "var0!", true},
		{"chan0!", "chan0!", false}, {"lock0", "lock0", true}, {"lock0", "lock0!", false}, {"file0", "file0", true}, {"file0!", "file0", false},
		{"threads0!", "threads0!", false}, {"threads1!", "threads2!", true}, {"threads1", "threads1", true}, {"threads0! threads1!", "threads2!", true},
		{"clock0", "", false}, {"clock0!", "", false}, {"clock0", "clock0", false}, {"clock0", "var0", false}, {"clock1", "var0", false}, {"var0 clock0", "", false}, {"clock0 var0", "var1", false},
		{"var0 var1 var2!", "var0 var1 var3!", true}, {"var0 var1 var2!", "var0 var1! var3!", false}, {"var0 var1 var2!", "var3 var2", false},
		{"var0 lock0 threads1!", "var0 lock0 threads2!", true}, {"var0! lock0 threads1!", "var0 lock0 threads2!", false},
		{"var0 var0!", "var0", false}, {"var0! var0", "var0", false}, {"var0 var0", "var0", true},
	} {
		a, b := accessesOf(t, c.a), accessesOf(t, c.b)
		if is := commute.Apart(a, b); is != c.want {
			t.Errorf("P12.1: Apart of %s and %s: %v", c.a, c.b, is)
		}
		if is := commute.Apart(b, a); is != c.want {
			t.Errorf("P12.12: Apart of %s and %s: %v", c.b, c.a, is)
		}
	}
	for _, kind := range []int{-1, machine.Objects, 1000, math.MinInt, math.MaxInt} {
		l := []machine.Access{{Kind: kind, Obj: -5}}
		changed := []machine.Access{{Kind: kind, Obj: -5, Change: true}}
		other := []machine.Access{{Kind: kind, Obj: math.MaxInt, Change: true}}
		if !commute.Apart(l, l) || commute.Apart(l, changed) || commute.Apart(changed, l) || commute.Apart(changed, changed) || !commute.Apart(changed, other) {
			t.Errorf("P12.1: Apart of accesses of the kind %d", kind)
		}
	}
}

// TestPairs: which statements of two threads can be exchanged.
func TestPairs(t *testing.T) {
	for _, c := range []struct {
		of1, of0 string // what the threads 1 and 0 do
		env      api.Env
		word     []int // by which the thread 1 does it first
		other    []int // by which the thread 0 does; nil, if the steps cannot be exchanged
	}{
		{of1: "x = 1;", of0: "y = 2;", word: []int{1}, other: []int{0, 1}},
		{of1: "x = 1;", of0: "x = 2;", word: []int{1}},
		{of1: "x = 1;", of0: "$a = x;", word: []int{1}},
		{of1: "$a = x;", of0: "x = 1;", word: []int{1}},
		{of1: "$a = x;", of0: "$a = x;", word: []int{1}, other: []int{0, 1}},
		{of1: "$a = x;", of0: "$a = y;", word: []int{1}, other: []int{0, 1}},
		{of1: "draw $a 2;", of0: "draw $a 3;", word: []int{1, 1, 0, 2}, other: []int{0, 2, 1, 1}},
		{of1: "draw $a 2;", of0: "x = 3;", word: []int{1, 1}, other: []int{0, 1, 1}},
		{of1: "x = 3;", of0: "draw $a 6;", word: []int{1, 0, 5}, other: []int{0, 5, 1}},
		{of1: "now $a;", of0: "draw $a 3;", word: []int{1, 0, 2}},
		{of1: "draw $a 2;", of0: "now $a;", word: []int{1, 1}},
		{of1: "now $a;", of0: "now $a;", word: []int{1}},
		{of1: "now $a;", of0: "x = 1;", env: api.Env{Skew: 3}, word: []int{1, 1}},
		{of1: "send c 1;", of0: "send d 1;", word: []int{1}, other: []int{0, 1}},
		{of1: "send d 1;", of0: "send d 2;", word: []int{1}},
		{of1: "acquire k;", of0: "acquire l;", word: []int{1}, other: []int{0, 1}},
		{of1: "read f $a;", of0: "read f $a;", word: []int{1}, other: []int{0, 1}},
		{of1: "read f $a;", of0: "read g $a;", word: []int{1}, other: []int{0, 1}},
		{of1: "write f 1;", of0: "read f $a;", word: []int{1}},
		{of1: "read f $a;", of0: "write f 1;", word: []int{1}},
		{of1: "write f 1;", of0: "write f 2;", word: []int{1}},
		{of1: "write f 1;", of0: "write g 2;", word: []int{1}, other: []int{0, 1}},
		{of1: "write f 1;", of0: "x = 2;", word: []int{1}, other: []int{0, 1}},
		{of1: "write f 1;", of0: "write g 2;", env: api.Env{Fault: 1}, word: []int{1, 0, 0, 1}, other: []int{0, 1, 1}},
		{of1: "write f 1;", of0: "write g 2;", env: api.Env{Fault: 1}, word: []int{1, 1}, other: []int{0, 0, 1, 1}},
		{of1: "write f 1;", of0: "write f 2;", env: api.Env{Fault: 1}, word: []int{1, 1}}, // a lost one is like any other
		{of1: "", of0: "x = 2;", word: []int{1}, other: []int{0, 1}},
		{of1: "", of0: "go q;", word: []int{1}},
		{of1: "go q;", of0: "go q;", word: []int{1}},
		{of1: "go q;", of0: "x = 2;", word: []int{1}, other: []int{0, 1}},
		{of1: "x = 1;", of0: "go q;", word: []int{1}, other: []int{0, 1}},
		{of1: "x = 1; acquire k;", of0: "y = 1; acquire k;", word: []int{1}, other: []int{0, 1}}, // both come to stand at a lock
		{of1: "x = 1; acquire k;", of0: "acquire k;", word: []int{1}},                            // it would wait
		{of1: "x = 1; sleep 1;", of0: "y = 1;", word: []int{1}},                                  // it comes to stand at a Sleep
		{of1: "x = 1;", of0: "y = 1; sleep 1;", word: []int{1}},
		{of1: "x = 1; recv e $a;", of0: "y = 1;", word: []int{1}, other: []int{0, 1}},
		{of1: "x = 1; recv e $a;", of0: "y = 1; recv e $a;", word: []int{1}}, // a channel without a capacity
		{of1: "x = 1; recv c $a;", of0: "y = 1; send c 1;", word: []int{1}, other: []int{0, 1}},
	} {
		x := testOf(t, "var x = 0;", "var y = 0;", "chan c 1;", "chan d 2;", "chan e 0;", "lock k ;", "lock l ;", "file f ;", "file g ;",
			"proc q { y = 3; }", "proc p { "+c.of1+" }", "test t { go p; "+c.of0+" x = 7; }").in(c.env)
		want := c.other
		if want == nil {
			want = c.word
		}
		word, is, e := commute.Swap(x.c, x.e, x.left, c.word, 1)
		if e != api.OK || is != (c.other != nil) || !slices.Equal(word, want) {
			t.Errorf("P12.2: Swap of %s and %s: %v, %v, %v; want %v", c.of1, c.of0, word, is, e, want)
		}
		if c.other == nil {
			continue
		}
		if word, is, e := commute.Swap(x.c, x.e, x.left, c.other, 1); e != api.OK || !is || !slices.Equal(word, c.word) {
			t.Errorf("P12.2: Swap of %s and %s: %v, %v, %v; want %v", c.of0, c.of1, word, is, e, c.word)
		}
		for _, way := range [][]int{{1}, {1, 1, 1}} {
			if e := commute.Check(x.c, x.e, x.left, c.word, c.other, way); e != api.OK {
				t.Errorf("P12.6: Check of the way %v from %v to %v: %v", way, c.word, c.other, e)
			}
		}
	}
}

// A swap is a call of Swap with its result.
type swap struct {
	what string
	test test
	word []int
	i    int
	want []int
	is   bool
}

func swaps(t *testing.T) []swap {
	apart := example(t)
	failing := testOf(t, "var x = 0;", "var y = 0;", "proc p { check x; }", "test t { go p; y = 1; y = 2; }")
	broken := testOf(t, "var x = 0;", "lock l ;", "proc p { x = 1; }", "test t { go p; release l; }")
	stuck := testOf(t, "lock k ;", "lock l ;", "chan c 1;", "proc p { acquire k; acquire k; }", "proc q { acquire l; acquire l; }", "test t { go p; go q; recv c $a; }")
	late := testOf(t, "var x = 0;", "var y = 0;", "proc p { y = 1; y = 2; }", "test t { go p; while 1 { x = 3; } }")
	receivers := testOf(t, "var x = 0;", "chan d 0;", "proc p { recv d $a; }", "proc q { x = 1; }", "test t { go p; go p; go q; send d 1; x = 2; }")
	return []swap{
		{"the steps of the example", apart, []int{1}, 1, []int{0, 1}, true},
		{"them, with noughts behind the word", apart, []int{1, 0, 0}, 1, []int{0, 1}, true},
		{"a Go and the thread that it starts", apart, []int{1}, 0, []int{1}, false},
		{"a Go and its own thread", apart, nil, 0, nil, false},
		{"the last step", apart, []int{1, 0}, 2, []int{1}, false},
		{"two steps of one thread", apart, []int{1, 1}, 1, []int{1, 1}, false},
		{"the end of a thread", apart, []int{1, 1}, 2, []int{1, 0, 1}, true},
		{"the end of a thread and that of the test", apart, []int{0, 1, 1}, 3, []int{0, 1, 1}, false},
		{"the step that fails", failing, []int{0, 1}, 1, []int{0, 1}, false},
		{"the step that cannot be done", broken, []int{1}, 1, []int{1}, false},
		{"the step behind which all are stuck", stuck, nil, 2, nil, false},
		{"steps ahead of the last ones", late, slices.Concat(make([]int, 61), []int{1}), 61, slices.Concat(make([]int, 60), []int{1}), true},
		{"the last one of 64 steps", late, slices.Concat(make([]int, 62), []int{1}), 62, slices.Concat(make([]int, 62), []int{1}), false},
		{"a Send to the second receiver, and another thread", receivers, []int{0, 1, 2}, 3, []int{1, 0, 1}, true},
		{"another thread, and a Send to the second receiver", receivers, []int{1, 0, 1}, 3, []int{0, 1, 2}, true},
		{"a Send, and the receiver", receivers, []int{0, 1, 1}, 3, []int{0, 1, 1}, false},
	}
}

func TestSwap(t *testing.T) {
	for _, c := range swaps(t) {
		x := c.test
		word, is, e := commute.Swap(x.c, x.e, x.left, c.word, c.i)
		if e != api.OK || is != c.is || !slices.Equal(word, c.want) {
			t.Errorf("P12.2: Swap of %s: %v, %v, %v; want %v, %v", c.what, word, is, e, c.want, c.is)
		}
		want := api.OK
		if !c.is {
			want = api.ErrProof
		}
		if e := commute.Check(x.c, x.e, x.left, c.word, c.want, []int{c.i}); e != want {
			t.Errorf("P12.6: Check with %s exchanged: %v; want %v", c.what, e, want)
		}
	}
}

func TestNormal(t *testing.T) {
	apart := example(t)
	three := testOf(t, "var x = 0;", "var y = 0;", "var z = 0;", "proc p { y = 1; y = 2; }", "proc q { z = 1; draw $a 2; }", "test t { go p; go q; x = 1; x = 2; }")
	clocks := testOf(t, "var x = 0;", "proc p { now $a; x = 1; }", "test t { go p; draw $a 2; draw $b 2; }")
	for _, c := range []struct {
		what string
		test test
		word []int
		want []int
	}{
		{"the example", apart, []int{1, 1}, []int{0, 1, 1}},
		{"a normal run", apart, []int{0, 1, 1}, []int{0, 1, 1}},
		{"noughts behind the word", apart, []int{1, 1, 0, 0, 0}, []int{0, 1, 1}},
		{"the empty word", apart, nil, nil},
		// The end of p stays behind that of q, as both change how many threads there are.
		{"three threads", three, []int{0, 2, 2, 1, 2, 1, 1, 1}, []int{0, 0, 0, 1, 1, 2, 2, 1, 2, 1}},
		{"threads that do not end", three, []int{0, 2, 1}, []int{0, 0, 0, 1, 2}},
		{"a look at the clock between draws", clocks, []int{1, 0, 1, 1}, []int{1, 0, 1, 0, 0, 1}},
	} {
		x := c.test
		if word, e := commute.Normal(x.c, x.e, x.left, c.word); e != api.OK || !slices.Equal(word, c.want) {
			t.Errorf("P12.3: Normal of %s: %v, %v; want %v", c.what, word, e, c.want)
		}
		if word, e := commute.Normal(x.c, x.e, x.left, c.want); e != api.OK || !slices.Equal(word, c.want) {
			t.Errorf("P12.10: Normal of the normal word of %s: %v, %v; want %v", c.what, word, e, c.want)
		}
		if is, e := commute.Alike(x.c, x.e, x.left, c.word, c.want); e != api.OK || !is {
			t.Errorf("P12.10: %s is not alike with its normal run: %v", c.what, e)
		}
	}
}

func TestWay(t *testing.T) {
	apart := example(t)
	three := testOf(t, "var x = 0;", "var y = 0;", "var z = 0;", "proc p { y = 1; y = 2; }", "proc q { z = 1; draw $a 2; }", "test t { go p; go q; x = 1; x = 2; }")
	race := testOf(t, "var x = 0;", "proc p { x = 1; }", "test t { go p; x = 2; }")
	for _, c := range []struct {
		what string
		test test
		a, b []int
		want []int
		e    api.Errno
	}{
		{"the example", apart, []int{1, 1}, []int{0, 1, 1}, []int{2, 1}, api.OK},
		{"the way back", apart, []int{0, 1, 1}, []int{1, 1}, []int{1, 2}, api.OK},
		{"the same run", apart, []int{1}, []int{1, 0, 0}, nil, api.OK},
		{"the same word", apart, nil, nil, nil, api.OK},
		{"a longer run", apart, nil, []int{0, 1}, nil, api.ErrDiffer},
		{"a shorter run", apart, []int{0, 1}, nil, nil, api.ErrDiffer},
		{"three threads", three, []int{0, 2, 2, 1, 2, 1, 1, 1}, []int{0, 0, 0, 1, 1, 2, 2, 1, 2, 1}, []int{7, 6, 5, 4, 3, 2, 8, 7, 6, 5, 4, 3, 6, 5, 4, 7, 6, 5}, api.OK},
		{"three threads on the way back", three, []int{0, 0, 0, 1, 1, 2, 2, 1, 2, 1}, []int{0, 2, 2, 1, 2, 1, 1, 1}, []int{5, 4, 3, 2, 6, 5, 4, 3, 7, 6, 5, 4, 6, 5, 7, 6, 8, 7}, api.OK},
		{"another draw", three, []int{0, 2, 2, 1}, []int{0, 2, 2, 0}, nil, api.ErrDiffer},
		{"two that put one variable", race, []int{1}, []int{0, 1}, nil, api.ErrDiffer},
	} {
		x := c.test
		way, e := commute.Way(x.c, x.e, x.left, c.a, c.b)
		if e != c.e || !slices.Equal(way, c.want) {
			t.Errorf("P12.5: Way of %s: %v, %v; want %v, %v", c.what, way, e, c.want, c.e)
		}
		if is, e := commute.Alike(x.c, x.e, x.left, c.a, c.b); e != api.OK || is != (c.e == api.OK) {
			t.Errorf("P12.4: Alike of %s: %v, %v", c.what, is, e)
		}
		want := api.OK
		if c.e != api.OK {
			want = api.ErrProof
		}
		if e := commute.Check(x.c, x.e, x.left, c.a, c.b, way); e != want {
			t.Errorf("P12.6: Check of %s: %v; want %v", c.what, e, want)
		}
	}
}
