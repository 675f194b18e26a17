package shrink_test

import (
	"math"
	"slices"
	"strconv"
	"strings"
	"testing"

	"culprit/api"
	"culprit/code"
	"culprit/play"
	"culprit/shrink"
)

var (
	failed = shrink.Want{Outcome: api.Failed}
	passed = shrink.Want{Outcome: api.Passed}
	stuck  = shrink.Want{Outcome: api.Stuck}
)

// example is the test of the chapter's examples.
func example(t *testing.T) test {
	return testOf(t, "test t { draw $a 3; draw $b 2; check $a * $b < 2; }")
}

func (x test) least(w shrink.Want, most int) ([]int, int, api.Errno) {
	return shrink.Least(x.c, x.e, x.left, w, most)
}

func (x test) local(w shrink.Want, word ...int) ([]int, int, api.Errno) {
	return shrink.Local(x.c, x.e, x.left, w, word)
}

func (x test) check(w shrink.Want, word ...int) api.Errno {
	return shrink.Check(x.c, x.e, x.left, w, word)
}

func (x test) complete(w shrink.Want, most int, word ...int) api.Errno {
	return shrink.Complete(x.c, x.e, x.left, w, word, most)
}

func TestExample(t *testing.T) {
	x := example(t)
	if word, n, e := x.least(failed, 100); e != api.OK || n != 6 || !slices.Equal(word, []int{2, 1}) {
		t.Errorf("P14.2: Least: %v, %d, %v", word, n, e)
	}
	if l := shrink.Smaller([]int{2, 1}); !sameLists(l, [][]int{{1}, {2}, {0, 1}, {1, 1}}) {
		t.Errorf("P14.1: Smaller of 2, 1: %v", l)
	}
	if word, n, e := x.local(failed, 2, 1); e != api.OK || n != 4 || !slices.Equal(word, []int{2, 1}) {
		t.Errorf("P14.3: Local of 2, 1: %v, %d, %v", word, n, e)
	}
	if e, f := x.check(failed, 2, 1), x.check(failed, 1, 1); e != api.OK || f != api.ErrProof {
		t.Errorf("P14.4: Check: %v, %v", e, f)
	}
	for most, want := range map[int]api.Errno{100: api.ErrNone, 6: api.ErrNone, 5: api.ErrLimit, 3: api.ErrLimit} {
		if word, n, e := x.least(stuck, most); e != want || n != 0 || len(word) != 0 {
			t.Errorf("P14.2: Least for Stuck with most %d: %v, %d, %v", most, word, n, e)
		}
	}
}

func TestShows(t *testing.T) {
	for _, c := range []struct {
		r    api.Result
		w    shrink.Want
		want bool
	}{
		{api.Result{}, shrink.Want{}, true},
		{api.Result{Outcome: api.Failed, Where: "p", Site: 2}, failed, true},
		{api.Result{Outcome: api.Failed, Where: "p", Site: 2}, shrink.Want{Outcome: api.Failed, Site: 5}, true}, // without Where, Site does not count
		{api.Result{Outcome: api.Failed, Where: "p", Site: 2}, shrink.Want{Outcome: api.Failed, Where: "p", Site: 2}, true},
		{api.Result{Outcome: api.Failed, Where: "p", Site: 2}, shrink.Want{Outcome: api.Failed, Where: "p"}, false},
		{api.Result{Outcome: api.Failed, Where: "p", Site: 2}, shrink.Want{Outcome: api.Failed, Where: "p", Site: 3}, false},
		{api.Result{Outcome: api.Failed, Where: "p", Site: 2}, shrink.Want{Outcome: api.Failed, Where: "q", Site: 2}, false},
		{api.Result{Outcome: api.Failed, Where: "p", Site: 2}, shrink.Want{Outcome: api.Failed, Where: "pp", Site: 2}, false},
		{api.Result{Outcome: api.Failed, Where: "p", Site: 2}, shrink.Want{Outcome: api.Broken, Where: "p", Site: 2}, false},
		{api.Result{Outcome: api.Failed, Where: "p", Site: 2}, shrink.Want{Outcome: api.Broken}, false},
		{api.Result{Outcome: api.Failed}, shrink.Want{Outcome: api.Failed, Where: "p"}, false},
		{api.Result{}, shrink.Want{Where: "t"}, false},
		{api.Result{Outcome: -1}, shrink.Want{Outcome: -1}, true},
		{api.Result{Outcome: math.MaxInt, Where: "\xff", Site: math.MinInt}, shrink.Want{Outcome: math.MaxInt, Where: "\xff", Site: math.MinInt}, true},
		{api.Result{Outcome: math.MinInt}, shrink.Want{Outcome: math.MaxInt}, false},
		// neither the cost nor the root counts
		{api.Result{Outcome: api.Late, Where: "t", Site: 1, Cost: api.Cost{Steps: 1, Allocs: 2, Waits: 3}, Root: api.Digest{4}}, shrink.Want{Outcome: api.Late, Where: "t", Site: 1}, true},
	} {
		if is := shrink.Shows(c.r, c.w); is != c.want {
			t.Errorf("P14.1: Shows of %v and %v: %v", c.r, c.w, is)
		}
	}
}

func TestSmaller(t *testing.T) {
	for _, c := range []struct {
		word []int
		want [][]int
	}{
		{nil, nil},
		{[]int{0}, nil},
		{[]int{0, 0, 0}, nil},
		{[]int{1}, [][]int{{}}},
		{[]int{2}, [][]int{{}, {1}}},
		{[]int{3, 0, 0}, [][]int{{}, {2}}},
		{[]int{0, 1}, [][]int{{}, {1}}},
		{[]int{0, 0, 1}, [][]int{{}, {0, 1}}},
		{[]int{1, 1}, [][]int{{1}, {0, 1}}},
		{[]int{1, 2}, [][]int{{1}, {2}, {0, 2}, {1, 1}}},
		{[]int{2, 1}, [][]int{{1}, {2}, {0, 1}, {1, 1}}},
		{[]int{1, 0, 1}, [][]int{{1}, {0, 1}, {1, 1}, {0, 0, 1}}},
		{[]int{4, 4, 4}, [][]int{{4, 4}, {0, 4, 4}, {3, 4, 4}, {4, 0, 4}, {4, 3, 4}, {4, 4, 3}}}, // 4 4 0 is 4 4
		{[]int{0, 0, 5}, [][]int{{}, {0, 5}, {0, 0, 4}}},                                         // the noughts at the end go with the last number
		{[]int{-1}, [][]int{{}}},
		{[]int{-1, -3}, [][]int{{-3}, {-1}}},
		{[]int{math.MaxInt}, [][]int{{}, {math.MaxInt - 1}}},
		{[]int{math.MinInt}, [][]int{{}}},
		{[]int{1, -1}, [][]int{{-1}, {1}, {0, -1}}},
	} {
		if l := shrink.Smaller(c.word); !sameLists(l, c.want) {
			t.Errorf("P14.1: Smaller of %v: %v; want %v", c.word, l, c.want)
		}
	}
	long := make([]int, 300)
	for i := range long {
		long[i] = i % 7
	}
	if l := shrink.Smaller(long); !sameLists(l, refSmaller(long)) {
		t.Errorf("P14.1: Smaller of a long word has %d words; want %d", len(l), len(refSmaller(long)))
	}
}

// TestOrderOfWords: words that are shorter come first, also those of runs with more choices.
func TestOrderOfWords(t *testing.T) {
	// the words: -, 1, 2, 0 1, 1 1, 2 1, 0 0 1, 0 1 1
	x := testOf(t, "test t { draw $a 3; if $a == 2 { $c = 9; } draw $b 2; if $a == 0 { draw $c 2; } "+
		"if $a == 2 { $b = 0; } $n = $a + $b * 3 + $c * 6; check $n - 0; check $n - 1; check $n - 3; check $n - 4; check $n - 6; check $n - 9; check $n - 56; }")
	for _, c := range []struct {
		site int
		word []int
		n    int
	}{{0, nil, 1}, {1, []int{1}, 2}, {6, []int{2}, 3}, {2, []int{0, 1}, 4}, {3, []int{1, 1}, 5}, {4, []int{0, 0, 1}, 7}, {5, []int{0, 1, 1}, 8}} {
		if word, n, e := x.least(shrink.Want{Outcome: api.Failed, Where: "t", Site: c.site}, 100); e != api.OK || n != c.n || !slices.Equal(word, c.word) {
			t.Errorf("P14.2: Least at %d: %v, %d, %v; want %v, %d", c.site, word, n, e, c.word, c.n)
		}
	}
}

// TestEachWord: each of the words of eight draws is the least one for one want, with its number.
func TestEachWord(t *testing.T) {
	text := "test t { " + strings.Repeat("draw $a 2; $n = $n * 2 + $a; ", 8)
	for v := range 256 {
		if v%7 > 0 && v < 250 {
			continue
		}
		x := testOf(t, text+"check $n - "+strconv.Itoa(v)+"; }")
		var word []int
		for bit := range 8 {
			word = append(word, v>>(7-bit)&1)
		}
		word = trimmed(word)
		number := 1 // all that are shorter, and those of its length that are less
		if n := len(word); n > 0 {
			number += 1<<(n-1) + v>>(8-n)/2
		}
		if got, n, e := x.least(failed, 256); e != api.OK || n != number || !slices.Equal(got, word) {
			t.Errorf("P14.2: Least of the word %v: %v, %d, %v; want %d", word, got, n, e, number)
		}
	}
}

// TestPlaces: at which place, in which procedure, with what is left and in which environment.
func TestPlaces(t *testing.T) {
	x := testOf(t, "var x = 0;", "file f ;", "proc p { check x < 1; draw $a 2; check $a < 1; }", "test t { draw $a 2; x = x + $a; call p; write f 1; read f $b; check $b; check kind < 2; check x < 1; }")
	for _, c := range []struct {
		x    test
		w    shrink.Want
		word []int
		n    int
		e    api.Errno
	}{
		{x, passed, nil, 1, api.OK},
		{x, failed, []int{1}, 2, api.OK},
		{x, shrink.Want{Outcome: api.Failed, Where: "p"}, []int{1}, 2, api.OK},
		{x, shrink.Want{Outcome: api.Failed, Where: "p", Site: 1}, []int{0, 1}, 3, api.OK},
		{x, shrink.Want{Outcome: api.Failed, Where: "t"}, nil, 0, api.ErrNone},
		{x, shrink.Want{Outcome: api.Failed, Where: "x"}, nil, 0, api.ErrNone},
		{x.in(api.Env{Fault: 1}), shrink.Want{Outcome: api.Failed, Where: "t"}, []int{0, 0, 1}, 4, api.OK},
		{x.in(api.Env{Kind: 2}), shrink.Want{Outcome: api.Failed, Where: "t", Site: 1}, nil, 1, api.OK},
		{x.in(api.Env{}, api.Cell{Name: "x", N: 1}), failed, nil, 1, api.OK},
		{x.in(api.Env{}, api.Cell{Name: "x", N: -1}), shrink.Want{Outcome: api.Failed, Where: "p", Site: 1}, []int{0, 1}, 3, api.OK},
		{x.in(api.Env{}, api.Cell{Name: "x", N: 1}), passed, nil, 0, api.ErrNone},
	} {
		if word, n, e := c.x.least(c.w, 100); e != c.e || n != c.n || !slices.Equal(word, c.word) {
			t.Errorf("P14.2: Least for %v in %v with %v: %v, %d, %v; want %v, %d, %v", c.w, c.x.e, c.x.left, word, n, e, c.word, c.n, c.e)
		}
		if c.e != api.OK {
			continue
		}
		if e := c.x.complete(c.w, 100, c.word...); e != api.OK {
			t.Errorf("P14.5: Complete for %v in %v with %v: %v", c.w, c.x.e, c.x.left, e)
		}
		if word, _, e := c.x.local(c.w, c.word...); e != api.OK || !slices.Equal(word, c.word) {
			t.Errorf("P14.8: Local for %v in %v with %v: %v, %v", c.w, c.x.e, c.x.left, word, e)
		}
		if e := c.x.check(c.w, c.word...); e != api.OK {
			t.Errorf("P14.7: Check for %v in %v with %v: %v", c.w, c.x.e, c.x.left, e)
		}
	}
}

// TestLocal: what is examined, with words that are none of the code among it.
func TestLocal(t *testing.T) {
	x := testOf(t, "test t { draw $a 3; draw $b 2; if $a == 2 { draw $c 3; check $b * $c < 2; } check $a + $b < 3; }")
	sum := testOf(t, "test t { draw $a 6; draw $b 6; check $a + $b - 7; check $a + $b - 6; }")
	at0 := shrink.Want{Outcome: api.Failed, Where: "t"}
	for _, c := range []struct {
		x    test
		w    shrink.Want
		word []int
		want []int
		n    int
		e    api.Errno
	}{
		{x, failed, []int{2, 1}, []int{2, 1}, 4, api.OK},
		{x, failed, []int{2, 1, 0, 0, 0}, []int{2, 1}, 4, api.OK},
		{x, failed, []int{2, 1, 1}, []int{2, 1}, 6, api.OK},
		{x, failed, []int{2, 1, 2}, []int{2, 1}, 6, api.OK},
		{x, at0, []int{2, 1, 2}, []int{2, 1, 2}, 7, api.OK},
		{x, passed, []int{2, 0, 2}, nil, 2, api.OK}, // it is the only word of its length: 2, and then none
		{x, passed, nil, nil, 0, api.OK},
		{x, passed, []int{0, 0}, nil, 0, api.OK},
		// of 4 3: 3, 4, 0 3, and 3 3, which shows it; of this: 3, 0 3, 2 3 and 3 2
		{sum, shrink.Want{Outcome: api.Failed, Where: "t", Site: 1}, []int{3, 3}, []int{3, 3}, 4, api.OK},
		{sum, failed, []int{4, 3}, []int{3, 3}, 8, api.OK},
		{sum, failed, []int{5, 1}, []int{5, 1}, 4, api.OK},
		{x, failed, nil, nil, 0, api.ErrArg},
		{x, failed, []int{1, 1}, nil, 0, api.ErrArg},
		{x, stuck, []int{2, 1}, nil, 0, api.ErrArg},
		{x, shrink.Want{Outcome: api.Failed, Where: "t", Site: 2}, []int{2, 1}, nil, 0, api.ErrArg},
		{x, failed, []int{3}, nil, 0, api.ErrRange},
		{x, failed, []int{2, -1}, nil, 0, api.ErrRange},
		{x, failed, []int{1, 1, 1}, nil, 0, api.ErrMore},
		{x, failed, []int{3, 1, 1, 1, 1}, nil, 0, api.ErrRange},
		{x, failed, append([]int{2, 1}, make([]int, 158)...), []int{2, 1}, 4, api.OK},
		{x, failed, append([]int{2, 1}, make([]int, 159)...), nil, 0, api.ErrLimit},
		{x, passed, make([]int, 161), nil, 0, api.ErrLimit},
	} {
		word, n, e := c.x.local(c.w, c.word...)
		if e != c.e || n != c.n || !slices.Equal(word, c.want) {
			t.Errorf("P14.3: Local of %v for %v: %v, %d, %v; want %v, %d, %v", c.word, c.w, word, n, e, c.want, c.n, c.e)
		}
		want := c.e
		switch {
		case want == api.ErrArg, want == api.OK && !slices.Equal(c.word, c.want):
			want = api.ErrProof
		}
		if e := c.x.check(c.w, c.word...); e != want {
			t.Errorf("P14.4: Check of %v for %v: %v; want %v", c.word, c.w, e, want)
		}
	}
}

// TestComplete: words that are locally least, but not the least, are not enough.
func TestComplete(t *testing.T) {
	x := testOf(t, "test t { draw $a 6; draw $b 6; check $a + $b - 6; }")
	if word, n, e := x.least(failed, 100); e != api.OK || n != 16 || !slices.Equal(word, []int{1, 5}) {
		t.Fatalf("P14.2: Least: %v, %d, %v", word, n, e)
	}
	for _, c := range []struct {
		word     []int
		local, e api.Errno
	}{
		{[]int{1, 5}, api.OK, api.OK},
		{[]int{1, 5, 0}, api.ErrProof, api.ErrProof},
		{[]int{2, 4}, api.OK, api.ErrProof},
		{[]int{5, 1}, api.OK, api.ErrProof},
		{[]int{0, 5}, api.ErrProof, api.ErrProof},
		{[]int{1}, api.ErrProof, api.ErrProof},
		{nil, api.ErrProof, api.ErrProof},
		{[]int{1, 6}, api.ErrRange, api.ErrProof}, // what is no word of the code is not the least one
		{[]int{1, 5, 1}, api.ErrMore, api.ErrProof},
		{make([]int, 200), api.ErrLimit, api.ErrProof},
	} {
		if e := x.check(failed, c.word...); e != c.local {
			t.Errorf("P14.4: Check of %v: %v; want %v", c.word, e, c.local)
		}
		if e := x.complete(failed, 16, c.word...); e != c.e {
			t.Errorf("P14.5: Complete of %v: %v; want %v", c.word, e, c.e)
		}
		if e := x.complete(failed, 15, c.word...); e != api.ErrLimit {
			t.Errorf("P14.5: Complete of %v with most 15: %v", c.word, e)
		}
		if e := x.complete(stuck, 36, c.word...); e != api.ErrNone {
			t.Errorf("P14.5: Complete of %v for Stuck: %v", c.word, e)
		}
		if e := x.complete(failed, 0, c.word...); e != api.ErrRange {
			t.Errorf("P14.5: Complete of %v with most 0: %v", c.word, e)
		}
	}
}

// TestErrors: which one comes first.
func TestErrors(t *testing.T) {
	x := example(t)
	wrong := x
	wrong.c.Begins = []int{1}
	for _, c := range []struct {
		x           test
		most        int
		word        []int
		least, play api.Errno
	}{
		{test{}, 0, make([]int, 161), startError(test{}), startError(test{})},
		{wrong.in(api.Env{Kind: 9}), 0, []int{9}, startError(wrong), startError(wrong)},
		{x.in(api.Env{Kind: 4}, make([]api.Cell, 65)...), 0, []int{9}, api.ErrArg, api.ErrArg},
		{x.in(api.Env{Fault: 9}), 1, nil, api.ErrArg, api.ErrArg},
		{x.in(api.Env{Skew: -1}), 1, nil, api.ErrArg, api.ErrArg},
		{x.in(api.Env{}, make([]api.Cell, 65)...), 0, []int{9}, api.ErrLimit, api.ErrLimit},
		{x, 0, append(make([]int, 160), 1), api.ErrRange, api.ErrLimit},
		{x, -1, []int{3}, api.ErrRange, api.ErrRange},
		{x, math.MinInt, []int{0, 0, 1}, api.ErrRange, api.ErrMore},
		{x, 16385, []int{0, 2}, api.ErrRange, api.ErrRange},
		{x, math.MaxInt, []int{-1}, api.ErrRange, api.ErrRange},
	} {
		for _, w := range []shrink.Want{failed, passed, stuck, {Outcome: -1}} {
			if word, n, e := c.x.least(w, c.most); e != c.least || n != 0 || len(word) != 0 {
				t.Errorf("P14.2: Least in %v with most %d: %v, %d, %v; want %v", c.x.e, c.most, word, n, e, c.least)
			}
			if e := c.x.complete(w, c.most, c.word...); e != c.least {
				t.Errorf("P14.5: Complete in %v with most %d: %v; want %v", c.x.e, c.most, e, c.least)
			}
			if word, n, e := c.x.local(w, c.word...); e != c.play || n != 0 || len(word) != 0 {
				t.Errorf("P14.3: Local of %v in %v: %v, %d, %v; want %v", c.word, c.x.e, word, n, e, c.play)
			}
			if e := c.x.check(w, c.word...); e != c.play {
				t.Errorf("P14.4: Check of %v in %v: %v; want %v", c.word, c.x.e, e, c.play)
			}
		}
	}
}

// startError returns what is wrong with a code.
func startError(x test) api.Errno {
	_, e := code.Valid(x.c)
	return e
}

// TestMost: the greatest bound, with just as many words, and with more.
func TestMost(t *testing.T) {
	draws := func(n int) string { return strings.Repeat("draw $a 2; $n = $n + $a; ", n) }
	x := testOf(t, "test t { "+draws(14)+"check $n < 14; }")
	all := slices.Repeat([]int{1}, 14)
	if word, n, e := x.least(failed, 16384); e != api.OK || n != 16384 || !slices.Equal(word, all) {
		t.Errorf("P14.2: Least of the last word of 16384: %v, %d, %v", word, n, e)
	}
	if word, n, e := x.least(failed, 16383); e != api.ErrLimit || n != 0 || len(word) != 0 {
		t.Errorf("P14.2: Least of the last word of 16384 with most 16383: %v, %d, %v", word, n, e)
	}
	if word, n, e := x.least(stuck, 16384); e != api.ErrNone || n != 0 || len(word) != 0 {
		t.Errorf("P14.2: Least of none of 16384 words: %v, %d, %v", word, n, e)
	}
	more := testOf(t, "test t { "+draws(15)+"check $n < 14; }")
	if word, n, e := more.least(failed, 16384); e != api.OK || n != 16384 || !slices.Equal(word, all) {
		t.Errorf("P14.2: Least of the word 16384 of 32768: %v, %d, %v", word, n, e)
	}
	if word, n, e := more.least(stuck, 16384); e != api.ErrLimit || n != 0 || len(word) != 0 {
		t.Errorf("P14.2: Least of none of 32768 words: %v, %d, %v", word, n, e)
	}
	if word, n, e := testOf(t, "test t { sleep 1; }").least(passed, 1); e != api.OK || n != 1 || len(word) != 0 {
		t.Errorf("P14.2: Least of the only word: %v, %d, %v", word, n, e)
	}
	if _, _, e := testOf(t, "test t { check 0; draw $a 2; }").least(passed, 1); e != api.ErrNone {
		t.Errorf("P14.2: Least of a run without steps: %v", e)
	}
}

// TestLongWords: words with a number for each thread that is picked, and for what it draws.
func TestLongWords(t *testing.T) {
	x := testOf(t, "proc p { "+strings.Repeat("draw $a 3; ", 12)+"}", "test t { go p; "+strings.Repeat("draw $a 3; ", 12)+"check $a < 2; }")
	for _, word := range [][]int{
		append(append(slices.Repeat([]int{1, 2}, 12), slices.Repeat([]int{1}, 12)...), 2), // the thread 1 draws and ends, and then the thread 0 draws
		append(slices.Repeat([]int{0, 1, 1, 2}, 11), 0, 2),                                // they take turns
		append(make([]int, 23), 2),
	} {
		shows := func(w []int) bool {
			r, e := play.Play(x.c, x.e, x.left, w)
			return e == api.OK && refShows(r.Result, failed)
		}
		if !shows(word) {
			t.Fatalf("the word %v does not show it", word)
		}
		want, number := refLocal(shows, word)
		if got, n, e := x.local(failed, word...); e != api.OK || n != number || !slices.Equal(got, want) {
			t.Errorf("P14.3: Local of %v: %v, %d, %v; want %v, %d", word, got, n, e, want, number)
		}
		if e := x.check(failed, want...); e != api.OK {
			t.Errorf("P14.8: Check of what Local returns of a long word: %v", e)
		}
	}
}
