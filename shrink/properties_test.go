package shrink_test

import (
	"fmt"
	"math"
	"slices"
	"strings"
	"testing"

	"culprit/api"
	"culprit/code"
	"culprit/play"
	"culprit/shrink"
)

var outcomes = strings.Fields("passed failed stuck late broken")

// TestLeastByChance compares Least and Complete with the reference, with all bounds at the edges.
func TestLeastByChance(t *testing.T) {
	seen := count{}
	games(t, 500, func(m maker, g game) {
		for _, w := range m.wants(g) {
			want, n := g.least(w)
			for _, most := range []int{n - 1, n, len(g.l) - 1, len(g.l), []int{1, 2, n + 1, len(g.l) + 1, 16384}[m.IntN(5)]} {
				f := api.OK
				switch {
				case most < 1:
					f = api.ErrRange
				case n == 0 && most < len(g.l), n > most:
					f = api.ErrLimit
				case n == 0:
					f = api.ErrNone
				}
				seen[fmt.Sprint("error ", f)]++
				g.checkLeast(t, w, most, want, n, f)
			}
			if n > 0 {
				g.checkLeastWord(t, w, want, seen)
			}
		}
	})
	seen.check(t, 100, "error 0", "error 4", "error 6", "least not the first", "least with a place")
	seen.check(t, 10, outcomes...)
}

// checkLeast expects results of Least, and of Complete for its word and others.
func (g game) checkLeast(t *testing.T, w shrink.Want, most int, want []int, n int, f api.Errno) {
	t.Helper()
	if f != api.OK {
		want, n = nil, 0
	}
	word, number, e := shrink.Least(g.c, g.e, g.left, w, most)
	if e != f || number != n || !slices.Equal(word, want) {
		t.Errorf("P14.2: Least of %v with most %d: %v, %d, %v; want %v, %d, %v", w, most, word, number, e, want, n, f)
	}
	wrong := f
	if f == api.OK {
		wrong = api.ErrProof
	}
	if e := shrink.Complete(g.c, g.e, g.left, w, want, most); e != f {
		t.Errorf("P14.5: Complete of %v with most %d: %v; want %v", w, most, e, f)
	}
	other := [][]int{append(slices.Clone(want), 0), append(slices.Clone(want), 1), {7}}[n%3]
	if e := shrink.Complete(g.c, g.e, g.left, w, other, most); e != wrong {
		t.Errorf("P14.5: Complete of %v with most %d and %v: %v; want %v", w, most, other, e, wrong)
	}
}

// checkLeastWord expects the least word to be what the properties say.
func (g game) checkLeastWord(t *testing.T, w shrink.Want, least []int, seen count) {
	t.Helper()
	r, e := play.Play(g.c, g.e, g.left, least)
	if e != api.OK || !shrink.Shows(r.Result, w) {
		t.Errorf("P14.7: the least word %v for %v ends as %v, %v", least, w, r.Result, e)
	}
	for _, x := range g.l {
		if refShows(x.r, w) && play.Less(x.word, least) {
			t.Errorf("P14.7: %v is ahead of the least word %v for %v", x.word, least, w)
		}
	}
	if e := shrink.Check(g.c, g.e, g.left, w, least); e != api.OK {
		t.Errorf("P14.7: Check of the least word %v for %v: %v", least, w, e)
	}
	if first := g.by[key(nil)]; refShows(first, w) && len(least) > 0 {
		t.Errorf("P14.9: the least word for %v is %v, but the empty word shows it", w, least)
	}
	seen[outcomes[w.Outcome]]++
	if len(least) > 0 {
		seen["least not the first"]++
	}
	if w.Where != "" {
		seen["least with a place"]++
	}
}

// TestLocalByChance compares Local and Check with the reference, for all words of small tests.
func TestLocalByChance(t *testing.T) {
	seen := count{}
	games(t, 300, func(m maker, g game) {
		for i := 0; i < len(g.l); i += 1 + len(g.l)/20 {
			word := append(slices.Clone(g.l[i].word), make([]int, m.IntN(2)*m.IntN(4))...)
			r := g.l[i].r
			g.checkLocal(t, shrink.Want{Outcome: r.Outcome}, word, seen)
			g.checkLocal(t, shrink.Want{Outcome: r.Outcome, Where: r.Where, Site: r.Site}, word, seen)
			g.checkLocal(t, m.wants(g)[m.IntN(5)], word, seen)
		}
	})
	seen.check(t, 100, "shows", "shows it not", "goes on", "is locally least", "is not", "with noughts", "smaller are no words")
	seen.check(t, 30, "local, not least")
}

// checkLocal expects Local and Check to do what the reference does, and the properties to hold.
func (g game) checkLocal(t *testing.T, w shrink.Want, word []int, seen count) {
	t.Helper()
	got, n, e := shrink.Local(g.c, g.e, g.left, w, word)
	g.checkCheck(t, w, word, seen)
	if !g.shows(word, w) {
		if seen["shows it not"]++; e != api.ErrArg || len(got) != 0 || n != 0 {
			t.Errorf("P14.3: Local of %v for %v: %v, %d, %v; want ErrArg", word, w, got, n, e)
		}
		return
	}
	seen["shows"]++
	want, number := g.local(w, word)
	if e != api.OK || n != number || !slices.Equal(got, want) {
		t.Errorf("P14.3: Local of %v for %v: %v, %d, %v; want %v, %d", word, w, got, n, e, want, number)
		return
	}
	r, e := play.Play(g.c, g.e, g.left, got)
	if e != api.OK || !shrink.Shows(r.Result, w) {
		t.Errorf("P14.8: what Local returns of %v for %v, %v, ends as %v, %v", word, w, got, r.Result, e)
	}
	if e := shrink.Check(g.c, g.e, g.left, w, got); e != api.OK {
		t.Errorf("P14.8: Check of what Local returns of %v for %v, %v: %v", word, w, got, e)
	}
	least, _ := g.least(w)
	if play.Less(word, got) || play.Less(got, least) {
		t.Errorf("P14.8: Local of %v for %v is %v; the least word is %v", word, w, got, least)
	}
	again, n, e := shrink.Local(g.c, g.e, g.left, w, got)
	if e != api.OK || !slices.Equal(again, got) || n != len(refSmaller(got)) {
		t.Errorf("P14.8: Local of %v, which is locally least for %v: %v, %d, %v", got, w, again, n, e)
	}
	g.countLocal(w, word, got, least, seen)
}

func (g game) countLocal(w shrink.Want, word, got, least []int, seen count) {
	if len(word) != len(trimmed(word)) {
		seen["with noughts"]++
	}
	if !slices.Equal(got, trimmed(word)) {
		seen["goes on"]++
	}
	if !slices.Equal(got, least) {
		seen["local, not least"]++
	}
	if slices.ContainsFunc(refSmaller(word), func(x []int) bool { _, is := g.by[key(x)]; return !is }) {
		seen["smaller are no words"]++
	}
}

// checkCheck expects Check to do what the reference does.
func (g game) checkCheck(t *testing.T, w shrink.Want, word []int, seen count) {
	t.Helper()
	want, name := api.ErrProof, "is not"
	if g.isLocal(w, word) {
		want, name = api.OK, "is locally least"
	}
	seen[name]++
	if e := shrink.Check(g.c, g.e, g.left, w, word); e != want {
		t.Errorf("P14.4: Check of %v for %v: %v; want %v", word, w, e, want)
	}
}

// TestErrorsOfWords: Local and Check have the error of play.Play for each word, and for words that are those of the code none but theirs.
func TestErrorsOfWords(t *testing.T) {
	seen := count{}
	games(t, 300, func(m maker, g game) {
		for range 12 {
			word := slices.Clone(g.l[m.IntN(len(g.l))].word)
			odd := []int{0, 1, 2, 3, 6, -1, math.MinInt, math.MaxInt}[m.IntN(8)]
			switch m.IntN(4) {
			case 0:
				word = append(word, odd)
			case 1:
				word = slices.Insert(word, m.IntN(len(word)+1), odd)
			case 2:
				word = append(word, make([]int, 160)...)
			}
			w := shrink.Want{Outcome: m.IntN(5)}
			_, want := play.Play(g.c, g.e, g.left, word)
			seen[fmt.Sprint("error ", want)]++
			got, n, e := shrink.Local(g.c, g.e, g.left, w, word)
			f := shrink.Check(g.c, g.e, g.left, w, word)
			if want != api.OK && (e != want || len(got) != 0 || n != 0 || f != want) {
				t.Errorf("P14.3, P14.4: %v has the error %v, but Local %v, %d, %v and Check %v", word, want, got, n, e, f)
			}
			if want == api.OK && (e == api.OK) != g.shows(word, w) {
				t.Errorf("P14.3: Local of %v for %v: %v", word, w, e)
			}
		}
	})
	seen.check(t, 50, "error 0", "error 3", "error 4", "error 5")
}

// TestSmallerByChance compares Smaller with the reference, and expects the properties of smaller words.
func TestSmallerByChance(t *testing.T) {
	seen := count{}
	for seed := range uint64(3000) {
		m := newMaker(seed)
		word := make([]int, m.IntN(9))
		for i := range word {
			word[i] = []int{0, 0, 1, 1, 2, 3, 5, -1, math.MinInt, math.MaxInt}[m.IntN(10)]
		}
		l := shrink.Smaller(word)
		if want := refSmaller(word); !sameLists(l, want) {
			t.Fatalf("P14.1: Smaller of %v: %v; want %v", word, l, want)
		}
		for i, x := range l {
			if !play.Less(x, word) || len(trimmed(x)) != len(x) {
				t.Fatalf("P14.6: Smaller of %v has %v", word, x)
			}
			if i > 0 && !play.Less(l[i-1], x) {
				t.Fatalf("P14.6: Smaller of %v has %v ahead of %v", word, l[i-1], x)
			}
		}
		if len(trimmed(word)) < len(word) {
			seen["with noughts"]++
		}
		if len(l) < 3*len(trimmed(word)) {
			seen["equal ones"]++
		}
		if len(l) == 0 {
			seen["none"]++
		}
	}
	seen.check(t, 100, "with noughts", "equal ones", "none")
}

// TestMemoryIsNew: arguments stay as they are, and results share no memory.
func TestMemoryIsNew(t *testing.T) {
	games(t, 60, func(m maker, g game) {
		x := g.l[len(g.l)-1]
		word := append(slices.Clone(x.word), 0, 0)[:len(x.word)+1]
		w := shrink.Want{Outcome: x.r.Outcome}
		wantWord, wantLeft, wantCode := slices.Clone(word[:cap(word)]), slices.Clone(g.left), string(code.Encode(g.c))
		results := func() [][]int {
			least, _, _ := shrink.Least(g.c, g.e, g.left, w, 16384)
			local, _, _ := shrink.Local(g.c, g.e, g.left, w, word)
			again, _, _ := shrink.Local(g.c, g.e, g.left, w, local)
			shrink.Check(g.c, g.e, g.left, w, word)
			shrink.Complete(g.c, g.e, g.left, w, word, 16384)
			return append(shrink.Smaller(word), least, local, again)
		}
		want := fmt.Sprint(results())
		l := results()
		for i := range l {
			behind := fmt.Sprint(l[i+1:])
			spoil(l[i])
			if fmt.Sprint(l[i+1:]) != behind {
				t.Error("P14.1, P14.3: two results share memory")
			}
		}
		if fmt.Sprint(results()) != want {
			t.Error("P14.2, P14.3: a result differs when it is made again")
		}
		if !slices.Equal(word[:cap(word)], wantWord) || !slices.Equal(g.left, wantLeft) || string(code.Encode(g.c)) != wantCode {
			t.Error("P14.2, P14.3: an argument has changed")
		}
	})
}

func spoil(l []int) {
	l = l[:cap(l)]
	for i := range l {
		l[i] = -777
	}
}
