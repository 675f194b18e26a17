package cause_test

import (
	"fmt"
	"math"
	"slices"
	"testing"

	"culprit/api"
	"culprit/cause"
	"culprit/code"
	"culprit/play"
	"culprit/shrink"
)

// wantsOf returns wants, of which a run shows the first two.
func (m maker) wantsOf(r api.Result) []shrink.Want {
	return []shrink.Want{
		{Outcome: r.Outcome},
		{Outcome: r.Outcome, Where: r.Where, Site: r.Site},
		{Outcome: r.Outcome, Where: m.one("t", "p"), Site: r.Site + 1},
		{Outcome: m.IntN(api.Outcomes+2) - 1},
	}
}

// TestFindByChance compares Find and Check with the reference, and expects the properties of what is found.
func TestFindByChance(t *testing.T) {
	seen := count{}
	games(t, 600, func(m maker, x test) {
		for _, word := range m.words(x, 4) {
			r, e := play.Play(x.c, x.e, x.left, word)
			if e != api.OK {
				t.Fatal(e)
			}
			for _, w := range m.wantsOf(r.Result) {
				x.checkFind(t, w, word, shrink.Shows(r.Result, w), seen)
			}
		}
	})
	seen.check(t, 20, of("cause", kinds)...)
	seen.check(t, 8, of("no cause", []string{"order", "number", "leftover"})...)
	seen.check(t, 100, "no want", "none", "several", "local word")
	seen.check(t, 10, "passed", "failed", "stuck", "late", "broken")
}

// checkFind expects Find for a word, which may show a want, to do what the reference does.
func (x test) checkFind(t *testing.T, w shrink.Want, word []int, shows bool, seen count) {
	t.Helper()
	l, least, e := cause.Find(x.c, x.e, x.left, w, word)
	if !shows {
		seen["no want"]++
		if e != api.ErrArg || len(l) != 0 || len(least) != 0 {
			t.Errorf("P15.1: Find of %v for %v: %v, %v, %v; want ErrArg", word, w, l, least, e)
		}
		if e := cause.Check(x.c, x.e, x.left, w, word, l); e != api.ErrProof {
			t.Errorf("P15.3: Check of %v, which does not show %v: %v", word, w, e)
		}
		return
	}
	wantLeast, _, _ := shrink.Local(x.c, x.e, x.left, w, word)
	want := x.refCauses(w, wantLeast)
	if e != api.OK || !slices.Equal(least, wantLeast) || !slices.Equal(l, want) {
		t.Errorf("P15.1: Find of %v for %v: %v, %v, %v; want %v, %v", word, w, l, least, e, want, wantLeast)
		return
	}
	x.checkReal(t, w, least, l)
	x.checkAgain(t, w, least, l)
	x.checkFree(t, w, word)
	x.checkLocal(t, w, word, l, seen)
	seen[[]string{"passed", "failed", "stuck", "late", "broken"}[w.Outcome]]++
	seen.causes("cause", l)
	for _, y := range x.refSuspects(least) {
		if !slices.Contains(l, y) {
			seen.causes("no cause", []cause.Cause{y})
		}
	}
	switch len(l) {
	case 0:
		seen["none"]++
	case 1:
	default:
		seen["several"]++
	}
}

// checkReal expects each cause of a word to be shown by two runs.
func (x test) checkReal(t *testing.T, w shrink.Want, word []int, l []cause.Cause) {
	t.Helper()
	for _, y := range l {
		a, b, e := cause.Show(x.c, x.e, x.left, word, y)
		if e != api.OK || !shrink.Shows(a.Result, w) || shrink.Shows(b.Result, w) {
			t.Errorf("P15.6: Show of %v and %v for %v: %v, %v, %v", word, y, w, a.Result, b.Result, e)
			return
		}
		if y.Kind == cause.Leftover {
			if len(x.left) == 0 {
				t.Errorf("P15.8: %v, but nothing is left", y)
			}
			continue
		}
		if !slices.Equal(play.Word(a)[:y.At], play.Word(b)[:y.At]) || play.Word(a)[y.At] != y.K || play.Word(b)[y.At] != 0 {
			t.Errorf("P15.6: Show of %v and %v: the choices %v and %v", word, y, play.Word(a), play.Word(b))
		}
	}
}

// checkAgain expects that a word that was found is found again, and that nothing but its causes is accepted.
func (x test) checkAgain(t *testing.T, w shrink.Want, word []int, l []cause.Cause) {
	t.Helper()
	again, least, e := cause.Find(x.c, x.e, x.left, w, word)
	if e != api.OK || !slices.Equal(again, l) || !slices.Equal(least, word) {
		t.Errorf("P15.7: Find of %v, which it returned: %v, %v, %v; want %v", word, again, least, e, l)
	}
	if e := cause.Check(x.c, x.e, x.left, w, word, l); e != api.OK {
		t.Errorf("P15.7: Check of %v and %v for %v: %v", word, l, w, e)
	}
	lists := changed(l)
	for i := len(word) % 3; i < len(lists); i += 3 {
		other := lists[i]
		if e := cause.Check(x.c, x.e, x.left, w, word, other); e != api.ErrProof {
			t.Errorf("P15.7: Check of %v and %v for %v: %v; only %v are causes", word, other, w, e, l)
		}
	}
	if e := cause.Check(x.c, x.e, x.left, w, append(slices.Clone(word), 0), l); e != api.ErrProof {
		t.Errorf("P15.3: Check of %v with a nought behind it: %v", word, e)
	}
}

// changed returns lists of causes that differ from one.
func changed(l []cause.Cause) [][]cause.Cause {
	lists := [][]cause.Cause{append(slices.Clone(l), cause.Cause{}), slices.Insert(slices.Clone(l), 0, cause.Cause{Kind: cause.Leftover, At: -1, Name: "zz"})}
	for i, x := range l {
		lists = append(lists, slices.Delete(slices.Clone(l), i, i+1), slices.Insert(slices.Clone(l), i, x))
		for _, f := range []func(*cause.Cause){
			func(x *cause.Cause) { x.Kind++ }, func(x *cause.Cause) { x.Where += "a" }, func(x *cause.Cause) { x.PC++ },
			func(x *cause.Cause) { x.K++ }, func(x *cause.Cause) { x.At-- }, func(x *cause.Cause) { x.Name += "a" },
		} {
			other := slices.Clone(l)
			f(&other[i])
			lists = append(lists, other)
		}
		if i > 0 {
			other := slices.Clone(l)
			other[i-1], other[i] = other[i], other[i-1]
			lists = append(lists, other)
		}
	}
	return lists
}

// checkFree expects no causes of choices where nothing is chosen, and none of leftovers where nothing is left.
func (x test) checkFree(t *testing.T, w shrink.Want, word []int) {
	t.Helper()
	l, least, e := cause.Find(x.c, x.e, x.left, w, nil)
	isChoice := func(y cause.Cause) bool { return y.Kind != cause.Leftover }
	if e == api.OK && (slices.ContainsFunc(l, isChoice) || len(least) != 0) || e != api.OK && e != api.ErrArg {
		t.Errorf("P15.8: Find of the empty word for %v: %v, %v, %v", w, l, least, e)
	}
	l, _, e = cause.Find(x.c, x.e, nil, w, word)
	if slices.ContainsFunc(l, func(y cause.Cause) bool { return !isChoice(y) }) {
		t.Errorf("P15.8: Find of %v for %v, with nothing left: %v, %v", word, w, l, e)
	}
}

// checkLocal expects Check to refuse a word that is not locally least, also with the causes of it.
func (x test) checkLocal(t *testing.T, w shrink.Want, word []int, l []cause.Cause, seen count) {
	t.Helper()
	if shrink.Check(x.c, x.e, x.left, w, word) == api.OK {
		seen["local word"]++
		return
	}
	for _, other := range [][]cause.Cause{l, x.refCauses(w, word)} {
		if e := cause.Check(x.c, x.e, x.left, w, word, other); e != api.ErrProof {
			t.Errorf("P15.3: Check of %v, which is not locally least for %v: %v", word, w, e)
		}
	}
}

// TestShowByChance compares Show with the reference, for what is chosen and left and for much that is not.
func TestShowByChance(t *testing.T) {
	seen := count{}
	games(t, 350, func(m maker, x test) {
		for _, word := range m.words(x, 3) {
			suspects := x.refSuspects(word)
			for _, y := range suspects {
				run, _ := play.Play(x.c, x.e, x.left, word)
				without, other := x.refWithout(word, y)
				a, b, e := cause.Show(x.c, x.e, x.left, word, y)
				if e != api.OK || !play.Same(a, run) || !play.Same(b, without.refRun(other)) {
					t.Errorf("P15.2: Show of %v and %v: %v, %v, %v", word, y, a, b, e)
				}
				if y.Kind != cause.Leftover && len(a.Moves) != len(b.Moves) {
					seen["other choices"]++
				}
			}
			seen.causes("shown", suspects)
			for _, y := range slices.Concat(append(changed(suspects), x.refChoices(word))...) {
				if slices.Contains(suspects, y) {
					continue
				}
				seen["refused"]++
				if a, b, e := cause.Show(x.c, x.e, x.left, word, y); e != api.ErrArg || !play.Same(a, play.Run{}) || !play.Same(b, play.Run{}) {
					t.Errorf("P15.2: Show of %v and %v: %v, %v, %v; want ErrArg", word, y, a, b, e)
				}
			}
		}
	})
	seen.check(t, 15, of("shown", kinds)...)
	seen.check(t, 100, "other choices", "refused")
}

// TestPinByChance compares Pin and Pinned with the reference.
func TestPinByChance(t *testing.T) {
	seen := count{}
	games(t, 350, func(m maker, x test) {
		for _, word := range m.words(x, 3) {
			want := x.refChoices(word)
			want = slices.DeleteFunc(want, func(y cause.Cause) bool { return y.K == 0 })
			pins, e := cause.Pin(x.c, x.e, x.left, word)
			if e != api.OK || !slices.Equal(pins, want) {
				t.Fatalf("P15.4: Pin of %v: %v, %v; want %v", word, pins, e, want)
			}
			seen.causes("pin", pins)
			run, _ := play.Play(x.c, x.e, x.left, word)
			numbers, e := cause.Pinned(x.c, x.e, x.left, pins)
			if e != api.OK || !slices.Equal(numbers, play.Word(run)) {
				t.Errorf("P15.9: Pinned of %v: %v, %v; want %v", pins, numbers, e, play.Word(run))
			}
			for range 6 {
				x.checkPinned(t, m.otherPins(pins, x.refChoices(word)), seen)
			}
		}
	})
	seen.check(t, 15, of("pin", kinds[:5])...)
	seen.check(t, 100, "error 0", "error 1", "error 18")
	seen.check(t, 20, "noughts")
}

// otherPins returns pins of some choices, some of them changed.
func (m maker) otherPins(pins, choices []cause.Cause) []cause.Cause {
	l := slices.Clone(pins)
	switch m.IntN(4) {
	case 0:
		l = slices.Clone(choices)
	case 1:
		l = slices.DeleteFunc(l, func(cause.Cause) bool { return m.IntN(3) == 0 })
	case 2:
		m.Shuffle(len(l), func(i, j int) { l[i], l[j] = l[j], l[i] })
	}
	if len(l) > 0 && m.IntN(2) == 0 {
		x := &l[m.IntN(len(l))]
		switch m.IntN(8) {
		case 0:
			x.Kind = m.IntN(cause.Kinds)
		case 1:
			x.Where = m.one("t", "p", "q", "")
		case 2:
			x.PC += m.IntN(3) - 1
		case 3:
			x.K = []int{-1, 0, 1, 2, 6, math.MinInt, math.MaxInt}[m.IntN(7)]
		case 4, 5:
			x.At = []int{-1, 0, 1, 2, 200, math.MinInt, math.MaxInt}[m.IntN(7)]
		case 6:
			x.Name = "x"
		}
	}
	return l
}

// checkPinned expects Pinned to do what the chapter says.
func (x test) checkPinned(t *testing.T, pins []cause.Cause, seen count) {
	t.Helper()
	want, f := x.refPinned(pins)
	seen[fmt.Sprint("error ", f)]++
	numbers, e := cause.Pinned(x.c, x.e, x.left, pins)
	if e != f || !slices.Equal(numbers, want) {
		t.Errorf("P15.4: Pinned of %v: %v, %v; want %v, %v", pins, numbers, e, want, f)
	}
	if e == api.OK && slices.ContainsFunc(pins, func(y cause.Cause) bool { return y.K == 0 }) {
		seen["noughts"]++
	}
}

// refPinned does by the words of the chapter what Pinned does.
func (x test) refPinned(pins []cause.Cause) ([]int, api.Errno) {
	for i, y := range pins {
		if y.At < 0 || i > 0 && y.At <= pins[i-1].At {
			return nil, api.ErrArg
		}
	}
	var word []int
	for _, y := range pins {
		for len(word) < min(y.At, 200) {
			word = append(word, 0)
		}
		word = append(word, y.K)
	}
	choices := x.refChoices(word)
	for _, y := range pins {
		if !slices.Contains(choices, y) {
			return nil, api.ErrStale
		}
	}
	done, _ := x.refFollow(word)
	return done, api.OK
}

// TestErrorsByChance: all functions with a word have the error of play.Play for it.
func TestErrorsByChance(t *testing.T) {
	seen := count{}
	games(t, 300, func(m maker, x test) {
		for _, word := range m.words(x, 6) {
			odd := []int{0, 1, 2, 3, 6, -1, math.MinInt, math.MaxInt}[m.IntN(8)]
			switch m.IntN(3) {
			case 0:
				word = append(word, odd)
			case 1:
				word = slices.Insert(word, m.IntN(len(word)+1), odd)
			case 2:
				word = append(word, make([]int, 161-m.IntN(len(word)+2))...)
			}
			_, want := play.Play(x.c, x.e, x.left, word)
			seen[fmt.Sprint("error ", want)]++
			if want == api.OK {
				continue
			}
			w := shrink.Want{Outcome: m.IntN(5)}
			if l, least, e := cause.Find(x.c, x.e, x.left, w, word); e != want || len(l)+len(least) != 0 {
				t.Errorf("P15.1: Find of %v: %v, %v, %v; want %v", word, l, least, e, want)
			}
			if a, b, e := cause.Show(x.c, x.e, x.left, word, cause.Cause{}); e != want || !play.Same(a, play.Run{}) || !play.Same(b, play.Run{}) {
				t.Errorf("P15.2: Show of %v: %v, %v, %v; want %v", word, a, b, e, want)
			}
			if e := cause.Check(x.c, x.e, x.left, w, word, nil); e != want {
				t.Errorf("P15.3: Check of %v: %v; want %v", word, e, want)
			}
			if l, e := cause.Pin(x.c, x.e, x.left, word); e != want || len(l) != 0 {
				t.Errorf("P15.4: Pin of %v: %v, %v; want %v", word, l, e, want)
			}
		}
	})
	seen.check(t, 50, "error 0", "error 3", "error 4", "error 5")
}

// TestKnownAgain: neither the order of causes nor K and At count in the key, nor do definitions on which the test does not rest.
func TestKnownAgain(t *testing.T) {
	further := defsOf("var aa = 7;", "rec ab { n = 1; }", "chan ac 0;", "lock ad ;", "file ae ;", "proc af { aa = 1; write ae 2; }", "test ag { call af; draw $a 3; }")
	seen := count{}
	for seed := range uint64(300) {
		m := newMaker(seed)
		texts := m.texts()
		x := testOf(t, texts...)
		c, e := code.Compile(append(slices.Clone(further), defsOf(texts...)...), "t")
		if e != api.OK {
			t.Fatal(e)
		}
		x.left = []api.Cell{{Name: "x", N: 1}, {Name: "aa", N: 3}}
		for _, word := range m.words(x, 2) {
			r, _ := play.Play(x.c, x.e, x.left, word)
			w := shrink.Want{Outcome: r.Result.Outcome}
			l, least, e := cause.Find(x.c, x.e, x.left, w, word)
			other, otherLeast, f := cause.Find(c, x.e, x.left, w, word)
			if e != api.OK || f != api.OK || !slices.Equal(l, other) || !slices.Equal(least, otherLeast) {
				t.Errorf("P15.10: Find of %v: %v, %v, %v; with further definitions %v, %v, %v", word, l, least, e, other, otherLeast, f)
			}
			m.Shuffle(len(other), func(i, j int) { other[i], other[j] = other[j], other[i] })
			for i := range other {
				other[i].K, other[i].At = m.IntN(9)-3, m.IntN(9)
			}
			if len(l) > 1 {
				seen["several"]++
			}
			if cause.Key(l) != cause.Key(other) || cause.Key(l) != refKey(l) {
				t.Errorf("P15.10: the key of %v is not that of %v", l, other)
			}
		}
	}
	seen.check(t, 20, "several")
}

// TestMemoryIsNew: arguments stay as they are, and results share no memory.
func TestMemoryIsNew(t *testing.T) {
	games(t, 80, func(m maker, x test) {
		words := m.words(x, 3)
		word := append(slices.Clone(words[len(words)-1]), 0, 0, 9)[:len(words[len(words)-1])+2]
		r, _ := play.Play(x.c, x.e, x.left, word)
		w := shrink.Want{Outcome: r.Result.Outcome}
		wantWord, wantLeft, wantCode := slices.Clone(word[:cap(word)]), slices.Clone(x.left), string(code.Encode(x.c))
		all := func() ([]cause.Cause, []int, []cause.Cause, []int) {
			l, least, _ := cause.Find(x.c, x.e, x.left, w, word)
			pins, _ := cause.Pin(x.c, x.e, x.left, word)
			wantPins := slices.Clone(pins)
			numbers, _ := cause.Pinned(x.c, x.e, x.left, pins)
			key := cause.Key(pins)
			if !slices.Equal(pins, wantPins) || key != cause.Key(wantPins) {
				t.Error("P15.4, P15.5: the pins have changed")
			}
			for _, y := range append(pins[:len(pins):len(pins)], l...) {
				cause.Show(x.c, x.e, x.left, word, y)
			}
			cause.Check(x.c, x.e, x.left, w, least, l)
			return l, least, pins, numbers
		}
		l, least, pins, numbers := all()
		want := fmt.Sprint(l, least, pins, numbers)
		if fmt.Sprint(all()) != want {
			t.Error("P15.1, P15.4: a result differs when it is made again")
		}
		spoil(l, cause.Cause{Kind: -7})
		spoil(least, -7)
		if !slices.Equal(word[:cap(word)], wantWord) || !slices.Equal(x.left, wantLeft) || string(code.Encode(x.c)) != wantCode {
			t.Error("P15.1 to P15.4: an argument has changed, or is shared with a result")
		}
		spoil(pins, cause.Cause{Kind: -7})
		spoil(numbers, -7)
		if fmt.Sprint(all()) != want {
			t.Error("P15.1, P15.4: a result has changed with another one")
		}
	})
}

func spoil[T any](l []T, x T) {
	l = l[:cap(l)]
	for i := range l {
		l[i] = x
	}
}
