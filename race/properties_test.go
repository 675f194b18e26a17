package race_test

import (
	"fmt"
	"math"
	"slices"
	"strconv"
	"strings"
	"testing"

	"culprit/api"
	"culprit/code"
	"culprit/commute"
	"culprit/machine"
	"culprit/play"
	"culprit/race"
)

var outcomes = strings.Fields("passed failed stuck late broken")

// known returns the clocks and the races of a run, if they are those of the reference.
func (x test) known(t *testing.T, r toldRun) ([][]int, []race.Race) {
	t.Helper()
	clocks, e := race.Clocks(x.c, x.e, x.left, r.word)
	if want := refClocks(r); e != api.OK || !sameLists(clocks, want) {
		t.Errorf("P13.1: Clocks of %v: %v, %v; want %v", r, clocks, e, want)
	}
	l, e := race.Races(x.c, x.e, x.left, r.word)
	if want := refRaces(x.c, r); e != api.OK || !slices.Equal(l, want) {
		t.Errorf("P13.3: Races of %v: %v, %v; want %v", r, l, e, want)
	}
	return clocks, l
}

// checkOrder expects Before to be the order of the steps of a run.
func (x test) checkOrder(t *testing.T, r toldRun, clocks [][]int, seen count) {
	t.Helper()
	threads, before := r.threads(), refBefore(r.steps)
	own := map[int]int{}
	for k := range r.steps {
		own[threads[k]]++
		if clocks[k][threads[k]] != own[threads[k]] {
			t.Errorf("P13.6: in its own clock %v, the step %d of %v is not the step %d of its thread", clocks[k], k, r, own[threads[k]])
		}
		for i := range r.steps {
			is := race.Before(clocks, threads, i, k)
			if is != before[i][k] {
				t.Errorf("P13.2: Before of %d and %d in %v: %v", i, k, r, is)
			}
			if is && i >= k || !is && i < k && threads[i] == threads[k] {
				t.Errorf("P13.6: Before of %d and %d in %v: %v", i, k, r, is)
			}
			seen["before "+strconv.FormatBool(is)]++
			for j := range r.steps {
				if !is && race.Before(clocks, threads, i, j) && race.Before(clocks, threads, j, k) {
					t.Errorf("P13.6: in %v, %d is before %d, and this before %d", r, i, j, k)
				}
			}
		}
	}
}

// checkLocked expects no lock to be owned by the threads of both steps of a race.
func checkLocked(t *testing.T, r toldRun, x race.Race, seen count) {
	t.Helper()
	a, b := r.steps[x.First], r.steps[x.Second]
	for lock := range a.ahead.Owners {
		of0, of1 := a.ahead.Owners[lock] == a.thread, b.ahead.Owners[lock] == b.thread
		if of0 && of1 {
			t.Errorf("P13.7: the lock %d is owned by both threads of %v in %v", lock, x, r)
		}
		if of0 || of1 {
			seen["one of both owns a lock"]++
		}
	}
}

// checkTurn compares Turn of a race with the reference, and expects it to be turned.
func (x test) checkTurn(t *testing.T, r toldRun, of race.Race, isLeast bool, seen count) {
	t.Helper()
	want, why := x.refTurn(r, of)
	word, e := race.Turn(x.c, x.e, x.left, r.word, of)
	seen["turned: "+why]++
	if why != "" {
		if e != api.ErrDiffer || len(word) != 0 {
			t.Errorf("P13.4: Turn of %v in %v: %v, %v; but %s", of, r, word, e, why)
		}
		if isLeast && mustTurn(r, of) {
			t.Errorf("P13.8: %v in %v cannot be turned: %s", of, r, why)
		}
		return
	}
	if e != api.OK || !slices.Equal(word, trimmed(want.word)) {
		t.Errorf("P13.4: Turn of %v in %v: %v, %v; want %v", of, r, word, e, trimmed(want.word))
		return
	}
	if isLeast && mustTurn(r, of) {
		seen["least"]++
	}
	steps, ahead := refSteps(r, of)
	turned := x.tell(word)
	for i := range ahead {
		if !refSame(r.steps[i], turned.steps[i]) {
			t.Errorf("P13.8: the run %v of %v turned in %v does not begin like it", turned, of, r)
		}
	}
	second := turned.steps[len(steps)-1]
	waiting := second.ahead.Threads[r.steps[of.First].thread]
	if !refSame(r.steps[of.Second], second) || waiting.Ended || waiting.Frames[len(waiting.Frames)-1].PC != of.PCs[0] {
		t.Errorf("P13.8: in the run %v, %v of %v is not turned", turned, of, r)
	}
	if len(steps) < of.Second {
		seen["some are left out"]++
	}
}

// mustTurn reports whether no step from First to Second accesses the clock, or how many threads there are.
func mustTurn(r toldRun, of race.Race) bool {
	for _, s := range r.steps[of.First : of.Second+1] {
		for _, a := range s.accesses {
			if a.Kind == machine.OnClock || a.Kind == machine.OnThreads && a.Obj == 0 {
				return false
			}
		}
	}
	return true
}

// checkRun compares all that is said of a run with the reference; of many races only some are turned.
func (x test) checkRun(t *testing.T, m maker, r toldRun, seen count) {
	t.Helper()
	clocks, l := x.known(t, r)
	x.checkOrder(t, r, clocks, seen)
	seen[outcomes[r.last.Outcome]]++
	least := math.MaxInt
	for _, of := range l {
		least = min(least, of.Second)
	}
	for _, of := range l {
		checkLocked(t, r, of, seen)
		if of.Second == least || m.IntN(len(l)) < 4 {
			x.checkTurn(t, r, of, of.Second == least, seen)
		}
	}
	if len(l) > 0 {
		x.checkNone(t, m, r, l)
		seen["races"]++
	}
}

// checkNone expects Turn to refuse what is a race of the run but for one field.
func (x test) checkNone(t *testing.T, m maker, r toldRun, l []race.Race) {
	t.Helper()
	other := l[m.IntN(len(l))]
	odd := []int{-1, 0, 1, 2, math.MaxInt, math.MinInt}[m.IntN(6)]
	switch m.IntN(7) {
	case 0:
		other.First = odd
	case 1:
		other.Second = odd
	case 2:
		other.First, other.Second = other.Second, other.First
	case 3:
		other.Var = m.one("", "x", "y", "z")
	case 4:
		other.Wheres[m.IntN(2)] = m.one("", "t", "p", "o")
	case 5:
		other.PCs[m.IntN(2)] = odd
	case 6:
		other.PCs[0], other.PCs[1] = other.PCs[1], other.PCs[0]
	}
	if slices.Contains(l, other) {
		return
	}
	if word, e := race.Turn(x.c, x.e, x.left, r.word, other); e != api.ErrNone || len(word) != 0 {
		t.Errorf("P13.4: Turn of %v, which is no race of %v: %v, %v", other, r, word, e)
	}
}

// TestLongRuns: runs by chance of tests with several threads.
func TestLongRuns(t *testing.T) {
	t.Parallel()
	seen := count{}
	tests(t, 600, 6, func(m maker, x test) {
		for range 2 {
			x.checkRun(t, m, x.run(m.IntN), seen)
		}
	})
	seen.check(t, 300, "races", "before true", "before false", "turned: ", "some are left out", "least")
	seen.check(t, 50, "one of both owns a lock", "turned: another instruction")
	seen.check(t, 3, "turned: over", "turned: not enabled")
	seen.check(t, 10, outcomes...)
}

// TestAllRuns: all runs of small tests, and what Pairs says of them.
func TestAllRuns(t *testing.T) {
	t.Parallel()
	seen := count{}
	tests(t, 350, 3, func(m maker, x test) {
		l, few := x.all(150)
		if !few {
			return
		}
		pairs, e := race.Pairs(x.c, x.e, x.left, len(l))
		if want := x.refPairs(t, len(l)); e != api.OK || !slices.Equal(pairs, want) {
			t.Errorf("P13.5: Pairs: %v, %v; want %v", pairs, e, want)
		}
		alike := map[string]map[race.Race]int{}
		for _, r := range l {
			races := map[race.Race]int{}
			for _, of := range refRaces(x.c, r) {
				races[places(of)]++
				if !slices.ContainsFunc(pairs, func(p race.Race) bool { return places(p) == places(of) }) {
					t.Errorf("P13.9: Pairs has not %v of %v", of, r)
				}
			}
			x.checkAlike(t, r, races, alike, seen)
		}
		for range 2 {
			x.checkRun(t, m, l[m.IntN(len(l))], seen)
		}
		if len(pairs) > 1 {
			seen["pairs"]++
		}
		x.refused(t, len(l)-1)
	})
	seen.check(t, 30, "pairs", "alike", "races", "before true", "before false", "turned: ", "some are left out", "least")
	seen.check(t, 10, outcomes...)
}

// checkAlike expects a run to have as many races of each kind as those that are alike.
func (x test) checkAlike(t *testing.T, r toldRun, races map[race.Race]int, alike map[string]map[race.Race]int, seen count) {
	t.Helper()
	x.known(t, r)
	normal, e := commute.Normal(x.c, x.e, x.left, r.word)
	if e != api.OK {
		t.Fatal(e)
	}
	others, known := alike[fmt.Sprint(normal)]
	if known && fmt.Sprint(others) != fmt.Sprint(races) {
		t.Errorf("P13.9: the run %v has other races than one that is alike: %v, %v", r, races, others)
	}
	if known && len(races) > 0 {
		seen["alike"]++
	}
	alike[fmt.Sprint(normal)] = races
}

// refused expects Pairs to refuse a test with more runs, with at most this many.
func (x test) refused(t *testing.T, most int) {
	t.Helper()
	want := api.ErrLimit
	if most == 0 {
		want = api.ErrArg
	}
	if l, e := race.Pairs(x.c, x.e, x.left, most); e != want || len(l) != 0 {
		t.Errorf("P13.5: Pairs with most %d: %v, %v; want %v", most, l, e, want)
	}
}

// TestErrorsOfWords: Clocks, Races and Turn have the errors of play.Play for words by chance.
func TestErrorsOfWords(t *testing.T) {
	t.Parallel()
	seen := count{}
	tests(t, 300, 3, func(m maker, x test) {
		r := x.run(m.IntN)
		of := race.Race{First: 1, Second: 2, Var: "x"}
		if l := refRaces(x.c, r); len(l) > 0 {
			of = l[0]
		}
		for range 4 {
			word := slices.Clone(r.word)
			odd := []int{0, 1, 2, 5, -1, math.MinInt, math.MaxInt}[m.IntN(7)]
			if at := m.IntN(len(word) + 2); at < len(word) {
				word[at] = odd
			} else {
				word = append(word, odd)
			}
			if _, want := play.Play(x.c, x.e, x.left, word); want != api.OK {
				x.refusedWord(t, "a word by chance", word, of, want)
				seen[strconv.Itoa(int(want))]++
			}
		}
		long := make([]int, api.MaxWord+1)
		x.refusedWord(t, "a long word", long, of, api.ErrLimit)
		long = long[1:]
		if l, e := race.Clocks(x.c, x.e, x.left, long); e != api.OK || !sameLists(l, refClocks(x.tell(nil))) {
			t.Errorf("P13.1: Clocks with 160 noughts: %v, %v", l, e)
		}
	})
	seen.check(t, 100, strconv.Itoa(int(api.ErrRange)), strconv.Itoa(int(api.ErrMore)))
}

// refusedWord expects an error of Clocks, Races and Turn, and nothing beside it.
func (x test) refusedWord(t *testing.T, what string, word []int, of race.Race, want api.Errno) {
	t.Helper()
	if l, e := race.Clocks(x.c, x.e, x.left, word); e != want || len(l) != 0 {
		t.Errorf("P13.1: Clocks with %s: %v, %v; want %v", what, l, e, want)
	}
	if l, e := race.Races(x.c, x.e, x.left, word); e != want || len(l) != 0 {
		t.Errorf("P13.3: Races with %s: %v, %v; want %v", what, l, e, want)
	}
	if l, e := race.Turn(x.c, x.e, x.left, word, of); e != want || len(l) != 0 {
		t.Errorf("P13.4: Turn with %s: %v, %v; want %v", what, l, e, want)
	}
}

// TestMemoryIsNew: arguments stay as they are, and results share no memory.
func TestMemoryIsNew(t *testing.T) {
	tests(t, 60, 3, func(m maker, x test) {
		r := x.run(m.IntN)
		word, left, bytes := slices.Clone(r.word), slices.Clone(x.left), string(code.Encode(x.c))
		first := x.spoiled(t, word)
		for range 2 {
			if text := x.spoiled(t, word); text != first {
				t.Errorf("a call has another result when it is called again: %s; %s", first, text)
			}
		}
		if !slices.Equal(word, r.word) || !slices.Equal(left, x.left) || string(code.Encode(x.c)) != bytes {
			t.Error("an argument has changed")
		}
	})
}

// spoiled returns results as text, and overwrites them, one after the other; those behind have to stay as they are.
func (x test) spoiled(t *testing.T, word []int) string {
	t.Helper()
	clocks, _ := race.Clocks(x.c, x.e, x.left, word)
	races, _ := race.Races(x.c, x.e, x.left, word)
	var turned [][]int
	for _, r := range races {
		l, _ := race.Turn(x.c, x.e, x.left, word, r)
		turned = append(turned, l)
	}
	pairs, _ := race.Pairs(x.c, x.e, x.left, 200)
	text := fmt.Sprint(clocks, races, turned, pairs)
	for i, clock := range clocks {
		rest := fmt.Sprint(clocks[i+1:])
		spoil(clock, -7)
		if fmt.Sprint(clocks[i+1:]) != rest {
			t.Errorf("P13.1: the clock %d shares memory with a later one", i)
		}
	}
	rest := fmt.Sprint(turned, pairs)
	spoil(races, race.Race{First: -9})
	if fmt.Sprint(turned, pairs) != rest {
		t.Error("P13.3: races share memory with words or pairs")
	}
	for _, l := range turned {
		spoil(l, -8)
	}
	spoil(pairs, race.Race{First: -8})
	return text
}

// spoil overwrites a list up to its capacity.
func spoil[T any](l []T, with T) {
	l = l[:cap(l)]
	for i := range l {
		l[i] = with
	}
}

// TestBeforeByChance: Before of any lists.
func TestBeforeByChance(t *testing.T) {
	seen := count{}
	m := newMaker(0)
	for range 50000 {
		clocks := make([][]int, 2+m.IntN(4))
		for i := range clocks {
			clocks[i] = make([]int, m.IntN(5))
			for k := range clocks[i] {
				clocks[i][k] = m.IntN(4) - 1
			}
		}
		threads := make([]int, 2+m.IntN(4))
		for i := range threads {
			threads[i] = []int{0, 1, 2, 0, 1, 0, 3, -1, math.MinInt, math.MaxInt}[m.IntN(10)]
		}
		i, k := m.IntN(7)-1, m.IntN(7)-1
		want := i >= 0 && k >= 0 && i != k && i < len(clocks) && k < len(clocks) && i < len(threads) && k < len(threads)
		want = want && threads[i] >= 0 && threads[i] < len(clocks[i]) && threads[i] < len(clocks[k]) && clocks[k][threads[i]] >= clocks[i][threads[i]]
		if race.Before(clocks, threads, i, k) != want {
			t.Fatalf("P13.2: Before(%v, %v, %d, %d): %v", clocks, threads, i, k, !want)
		}
		seen[strconv.FormatBool(want)]++
	}
	seen.check(t, 1000, "true", "false")
}

// TestSame: races that differ in one field.
func TestSame(t *testing.T) {
	r := race.Race{First: 1, Second: 2, Var: "x", Wheres: [2]string{"p", "q"}, PCs: [2]int{3, 4}}
	other := r
	if !race.Same(r, other) || !race.Same(race.Race{}, race.Race{}) {
		t.Error("P13.5: Same of equal races")
	}
	for i, change := range []func(r *race.Race){
		func(r *race.Race) { r.First = 0 },
		func(r *race.Race) { r.Second = 1 },
		func(r *race.Race) { r.First, r.Second = r.Second, r.First },
		func(r *race.Race) { r.Var = "y" },
		func(r *race.Race) { r.Var = "" },
		func(r *race.Race) { r.Wheres[0] = "q" },
		func(r *race.Race) { r.Wheres[1] = "p" },
		func(r *race.Race) { r.Wheres[0], r.Wheres[1] = r.Wheres[1], r.Wheres[0] },
		func(r *race.Race) { r.PCs[0] = 4 },
		func(r *race.Race) { r.PCs[1] = -4 },
	} {
		other := r
		change(&other)
		if race.Same(r, other) || race.Same(other, r) {
			t.Errorf("P13.5: Same of races that differ by the change %d", i)
		}
	}
}
