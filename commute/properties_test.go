package commute_test

import (
	"fmt"
	"math"
	"slices"
	"strconv"
	"testing"

	"culprit/api"
	"culprit/code"
	"culprit/commute"
	"culprit/machine"
	"culprit/play"
)

// tests calls f for tests by chance, in which threads make up to n statements each.
func tests(t *testing.T, seeds, n int, f func(m maker, x test)) {
	t.Helper()
	for seed := range uint64(seeds) {
		m := newMaker(seed)
		f(m, m.test(t, n))
		if t.Failed() {
			t.Fatal("the seed is", seed)
		}
	}
}

// fewRuns calls f for tests by chance, with all their runs, if these are few, and by their steps the numbers of these.
func fewRuns(t *testing.T, seeds int, f func(m maker, x test, l []toldRun, numbers map[string]int)) {
	t.Helper()
	tests(t, seeds, 2, func(m maker, x test) {
		l, few := x.all(150)
		if !few {
			return
		}
		numbers := map[string]int{}
		for i, r := range l {
			numbers[key(r.steps)] = i
		}
		f(m, x, l, numbers)
	})
}

// componentsOf returns for each run a number that is the same for two runs exactly if exchanges lead from one to the other.
func componentsOf(t *testing.T, l []toldRun, numbers map[string]int) []int {
	t.Helper()
	component := make([]int, len(l))
	for i := range component {
		component[i] = -1
	}
	for i := range l {
		for queue := []int{i}; len(queue) > 0; queue = queue[1:] {
			j := queue[0]
			if component[j] != -1 {
				continue
			}
			component[j] = i
			for k := range l[j].steps {
				if steps, is := refExchange(l[j].steps, k); is {
					other, known := numbers[key(steps)]
					if !known {
						t.Fatalf("the run %s exchanged at %d is none", key(l[j].steps), k)
					}
					queue = append(queue, other)
				}
			}
		}
	}
	return component
}

// swaps compares Swap with the reference, for steps that a run has, or has not.
func (x test) swaps(t *testing.T, r toldRun, i int, seen count) {
	t.Helper()
	word, is, e := commute.Swap(x.c, x.e, x.left, r.word, i)
	if i < 0 || i > len(r.steps)-2 {
		if e != api.ErrRange || is || len(word) != 0 {
			t.Errorf("P12.2: Swap at %d of the %d steps of %v: %v, %v, %v", i, len(r.steps), r.word, word, is, e)
		}
		seen["out of range"]++
		return
	}
	steps, want := refExchange(r.steps, i)
	swapped, isRun := x.inOrder(steps)
	if !isRun {
		t.Fatalf("P12.9: the run %s exchanged at %d is none", key(r.steps), i)
	}
	if e != api.OK || is != want || !slices.Equal(word, trimmed(swapped.word)) {
		t.Errorf("P12.2: Swap at %d of %v: %v, %v, %v; want %v, %v", i, r.word, word, is, e, trimmed(swapped.word), want)
	}
	seen["exchanged "+strconv.FormatBool(want)]++
	if !want {
		return
	}
	if again, is, e := commute.Swap(x.c, x.e, x.left, word, i); e != api.OK || !is || !slices.Equal(again, trimmed(r.word)) {
		t.Errorf("P12.2: Swap at %d of %v, and again: %v, %v, %v", i, r.word, again, is, e)
	}
	x.sameStates(t, r.word, word, i)
}

// sameStates expects two runs to have the same states where no thread is picked, but behind the step i.
func (x test) sameStates(t *testing.T, a, b []int, i int) {
	t.Helper()
	var unpicked [2][]machine.State
	for n, word := range [][]int{a, b} {
		states, e := play.States(x.c, x.e, x.left, word)
		if e != api.OK {
			t.Fatalf("P12.2: States of %v: %v", word, e)
		}
		for _, s := range states {
			if s.Picked == -1 {
				unpicked[n] = append(unpicked[n], s)
			}
		}
	}
	if len(unpicked[0]) != len(unpicked[1]) {
		t.Fatalf("P12.9: %d and %d states", len(unpicked[0]), len(unpicked[1]))
	}
	for k := range unpicked[0] {
		if k != i+1 && !machine.Same(unpicked[0][k], unpicked[1][k]) {
			t.Errorf("P12.9: the runs %v and %v, exchanged at %d, differ in the state %d", a, b, i, k)
		}
	}
}

// TestAllSwaps: Swap at all steps of some runs of small tests.
func TestAllSwaps(t *testing.T) {
	t.Parallel()
	seen := count{}
	fewRuns(t, 400, func(m maker, x test, l []toldRun, _ map[string]int) {
		for range 2 {
			r := l[m.IntN(len(l))]
			seen.run(t, x, r.word)
			for i := -1; i <= len(r.steps); i++ {
				x.swaps(t, r, i, seen)
			}
		}
	})
	seen.check(t, 200, "out of range", "exchanged true", "exchanged false")
	seen.check(t, 20, append(kinds, outcomes...)...)
}

// TestSwapsOfLongRuns: Swap at some steps of runs with more threads and steps.
func TestSwapsOfLongRuns(t *testing.T) {
	t.Parallel()
	seen := count{}
	tests(t, 800, 6, func(m maker, x test) {
		r := x.tell(m.word(x))
		seen.run(t, x, r.word)
		for range 3 {
			x.swaps(t, r, m.IntN(len(r.steps)+2)-1, seen)
		}
	})
	seen.check(t, 200, "out of range", "exchanged true", "exchanged false")
	seen.check(t, 20, append(kinds, outcomes...)...)
}

// TestAllRuns compares Normal, Classes and Ends with exchanges of all runs of small tests.
func TestAllRuns(t *testing.T) {
	t.Parallel()
	seen := count{}
	fewRuns(t, 400, func(_ maker, x test, l []toldRun, numbers map[string]int) {
		component := componentsOf(t, l, numbers)
		normals := map[int][]int{}
		for i, r := range l {
			word := trimmed(l[numbers[key(refNormal(r.steps))]].word)
			if n, e := commute.Normal(x.c, x.e, x.left, r.word); e != api.OK || !slices.Equal(n, word) {
				t.Errorf("P12.3: Normal of %v: %v, %v; want %v", r.word, n, e, word)
			}
			if other, known := normals[component[i]]; known && !slices.Equal(other, word) {
				t.Errorf("P12.10: runs that are alike have the normal words %v and %v", other, word)
			}
			normals[component[i]] = word
		}
		var want [][]int
		for i, c := range component {
			if c == i {
				want = append(want, normals[i])
			}
		}
		slices.SortFunc(want, less)
		x.checkClasses(t, want, len(l))
		x.checkEnds(t, want, l, seen)
		if len(want) < len(l) {
			seen["fewer classes than runs"]++
		}
		if len(want) > 2 {
			seen["classes"]++
		}
		for _, r := range l {
			seen[outcomes[r.last().Outcome]]++
		}
	})
	seen.check(t, 50, "fewer classes than runs", "classes", "fewer ends than classes", "several ends")
	seen.check(t, 50, outcomes...)
}

// checkClasses expects Classes to return some words of a test with n runs.
func (x test) checkClasses(t *testing.T, want [][]int, n int) {
	t.Helper()
	for _, most := range []int{n, n + 1, api.MaxGraph} {
		if l, e := commute.Classes(x.c, x.e, x.left, most); e != api.OK || !slices.EqualFunc(l, want, slices.Equal[[]int]) {
			t.Errorf("P12.7: Classes of %d runs, with most %d: %v, %v; want %v", n, most, l, e, want)
		}
	}
	if n > 1 {
		x.refused(t, n-1, api.ErrLimit)
		x.refused(t, 1, api.ErrLimit)
	}
}

// refused expects an error of Classes and Ends, and nothing beside it.
func (x test) refused(t *testing.T, most int, want api.Errno) {
	t.Helper()
	if l, e := commute.Classes(x.c, x.e, x.left, most); e != want || len(l) != 0 {
		t.Errorf("P12.7: Classes with most %d: %v, %v; want %v", most, l, e, want)
	}
	if l, e := commute.Ends(x.c, x.e, x.left, most); e != want || len(l) != 0 {
		t.Errorf("P12.8: Ends with most %d: %v, %v; want %v", most, l, e, want)
	}
}

// checkEnds expects Ends to return the last states of the runs of the classes, in their order, and all runs to end so.
func (x test) checkEnds(t *testing.T, classes [][]int, all []toldRun, seen count) {
	t.Helper()
	var want []string
	for _, word := range classes {
		if s := show(x.tell(word).last()); !slices.Contains(want, s) {
			want = append(want, s)
		}
	}
	l, e := commute.Ends(x.c, x.e, x.left, len(all))
	var got []string
	for _, s := range l {
		got = append(got, show(s))
	}
	if e != api.OK || !slices.Equal(got, want) {
		t.Errorf("P12.8: Ends: %v, %v; want %v", got, e, want)
	}
	for _, r := range all {
		if !slices.Contains(got, show(r.last())) {
			t.Errorf("P12.11: the run %v has the last state %v, which is none of %v", r.word, show(r.last()), got)
		}
	}
	if len(want) < len(classes) {
		seen["fewer ends than classes"]++
	}
	if len(want) > 1 {
		seen["several ends"]++
	}
}

// compares compares Alike, Way and Check of two runs with the reference.
func (x test) compares(t *testing.T, a, b toldRun, seen count) {
	t.Helper()
	want := key(refNormal(a.steps)) == key(refNormal(b.steps))
	if is, e := commute.Alike(x.c, x.e, x.left, a.word, b.word); e != api.OK || is != want {
		t.Errorf("P12.4: Alike of %v and %v: %v, %v; want %v", a.word, b.word, is, e, want)
	}
	way, e := commute.Way(x.c, x.e, x.left, a.word, b.word)
	if !want {
		if e != api.ErrDiffer || len(way) != 0 {
			t.Errorf("P12.5: Way from %v to %v: %v, %v", a.word, b.word, way, e)
		}
		seen["differ"]++
		return
	}
	if right := refWay(a.steps, b.steps); e != api.OK || !slices.Equal(way, right) {
		t.Errorf("P12.5: Way from %v to %v: %v, %v; want %v", a.word, b.word, way, e, right)
	}
	if e := commute.Check(x.c, x.e, x.left, a.word, b.word, way); e != api.OK {
		t.Errorf("P12.10: Check from %v to %v does not accept %v: %v", a.word, b.word, way, e)
	}
	if n := disorder(a.steps, b.steps); n != len(way) {
		t.Errorf("P12.10: Way from %v to %v: %v; %d pairs stand in another order", a.word, b.word, way, n)
	}
	seen["alike"]++
	if len(way) > 2 {
		seen["long way"]++
	}
}

// TestAllPairs: Alike, Way and Check of pairs of the runs of small tests.
func TestAllPairs(t *testing.T) {
	t.Parallel()
	seen := count{}
	fewRuns(t, 300, func(m maker, x test, l []toldRun, numbers map[string]int) {
		component := componentsOf(t, l, numbers)
		for range 8 {
			i, j := m.IntN(len(l)), m.IntN(len(l))
			is, e := commute.Alike(x.c, x.e, x.left, l[i].word, l[j].word)
			if e != api.OK || is != (component[i] == component[j]) {
				t.Errorf("P12.4: Alike of %v and %v: %v, %v", l[i].word, l[j].word, is, e)
			}
			x.compares(t, l[i], l[j], seen)
		}
	})
	seen.check(t, 200, "alike", "differ")
	seen.check(t, 20, "long way")
}

// mixed returns a run that is alike, and differs by some exchanges.
func (m maker) mixed(t *testing.T, x test, r toldRun) toldRun {
	t.Helper()
	steps := r.steps
	for range 40 {
		steps, _ = refExchange(steps, m.IntN(len(steps)+1)-1)
	}
	r, is := x.inOrder(steps)
	if !is {
		t.Fatalf("P12.9: there is no run %s", key(steps))
	}
	return r
}

// TestLongRuns: Normal, Alike, Way and Check of runs with more threads and steps.
func TestLongRuns(t *testing.T) {
	t.Parallel()
	seen := count{}
	tests(t, 500, 6, func(m maker, x test) {
		r := x.tell(m.word(x))
		seen.run(t, x, r.word)
		other := m.mixed(t, x, r)
		normal, is := x.inOrder(refNormal(r.steps))
		if !is {
			t.Fatalf("P12.3: the normal run of %v is none", r.word)
		}
		for _, word := range [][]int{r.word, other.word, normal.word} {
			if n, e := commute.Normal(x.c, x.e, x.left, word); e != api.OK || !slices.Equal(n, trimmed(normal.word)) {
				t.Errorf("P12.10: Normal of %v, which is alike with %v: %v, %v; want %v", word, r.word, n, e, trimmed(normal.word))
			}
		}
		for _, s := range []toldRun{r, other, normal, x.tell(m.word(x))} {
			x.compares(t, r, s, seen)
			x.compares(t, s, other, seen)
		}
	})
	seen.check(t, 200, "alike", "differ", "long way")
	seen.check(t, 20, append(kinds, outcomes...)...)
}

// way returns numbers that may be a way from one run to another one.
func (m maker) way(a, b toldRun) []int {
	way := refWay(a.steps, b.steps)
	odd := []int{0, 1, 2, len(a.steps) - 3, len(a.steps) - 2, len(a.steps) - 1, len(a.steps), -1, math.MinInt, math.MaxInt}[m.IntN(10)]
	at := m.IntN(len(way) + 1)
	switch m.IntN(5) {
	case 0:
		return slices.Insert(way, at, odd)
	case 1:
		return slices.Insert(way, at, odd, odd)
	case 2:
		return way[:at]
	case 3:
		if at < len(way) {
			way[at] = odd
		}
	case 4:
		slices.Reverse(way)
	}
	return way
}

// TestCheckOfOtherWays compares Check with the reference, for ways that may not lead to the other run.
func TestCheckOfOtherWays(t *testing.T) {
	t.Parallel()
	seen := count{}
	tests(t, 800, 4, func(m maker, x test) {
		a := x.tell(m.word(x))
		if len(a.steps) == 0 {
			return
		}
		b := m.mixed(t, x, a)
		for range 5 {
			way := m.way(a, b)
			want := refCheck(a.steps, b.steps, way)
			if e := commute.Check(x.c, x.e, x.left, a.word, b.word, way); e != want {
				t.Errorf("P12.6: Check of %v from %v to %v: %v; want %v", way, a.word, b.word, e, want)
			}
			seen["error "+strconv.Itoa(int(want))]++
		}
		other := x.tell(m.word(x))
		if key(refNormal(a.steps)) != key(refNormal(other.steps)) {
			if e := commute.Check(x.c, x.e, x.left, a.word, other.word, nil); e != api.ErrProof {
				t.Errorf("P12.6: Check of no way from %v to %v: %v", a.word, other.word, e)
			}
			seen["not alike"]++
		}
	})
	seen.check(t, 200, "error "+strconv.Itoa(int(api.OK)), "error "+strconv.Itoa(int(api.ErrProof)), "not alike")
}

func (m maker) access() machine.Access {
	kind := []int{0, 1, 2, 3, 5, 0, 1, 2, 3, 5, 4, 6, -1, math.MinInt, math.MaxInt}[m.IntN(15)]
	obj := []int{0, 1, 2, 3, 0, 1, 2, 3, -1, math.MaxInt}[m.IntN(10)]
	return machine.Access{Kind: kind, Obj: obj, Change: m.IntN(2) == 0}
}

func (m maker) accesses() []machine.Access {
	var l []machine.Access
	for range m.IntN(4) {
		l = append(l, m.access())
	}
	return l
}

// TestApartByChance: Apart does not depend on orders, and further accesses do not bring it about.
func TestApartByChance(t *testing.T) {
	seen := count{}
	m := newMaker(0)
	for range 20000 {
		a, b := m.accesses(), m.accesses()
		want := refApart(a, b)
		seen[strconv.FormatBool(want)]++
		if commute.Apart(a, b) != want {
			t.Fatalf("P12.1: Apart of %v and %v: %v", a, b, !want)
		}
		if commute.Apart(b, a) != want {
			t.Fatalf("P12.12: Apart of %v and %v is %v, but not the other way round", a, b, want)
		}
		m.Shuffle(len(a), func(i, j int) { a[i], a[j] = a[j], a[i] })
		m.Shuffle(len(b), func(i, j int) { b[i], b[j] = b[j], b[i] })
		if commute.Apart(a, b) != want {
			t.Fatalf("P12.12: Apart of %v and %v in another order: %v", a, b, !want)
		}
		more := slices.Insert(slices.Clone(a), m.IntN(len(a)+1), m.access())
		if !want && (commute.Apart(more, b) || commute.Apart(b, more)) {
			t.Fatalf("P12.12: %v and %v are apart, but not without one", more, b)
		}
	}
	seen.check(t, 2000, "true", "false")
}

// TestMemoryIsNew: arguments stay as they are, and results share no memory.
func TestMemoryIsNew(t *testing.T) {
	fewRuns(t, 100, func(m maker, x test, l []toldRun, _ map[string]int) {
		r, s := l[m.IntN(len(l))], l[m.IntN(len(l))]
		a, b, cells, bytes := slices.Clone(r.word), slices.Clone(s.word), slices.Clone(x.left), string(code.Encode(x.c))
		var first string
		for i := range 3 {
			text := x.spoiled(t, a, b)
			if i == 0 {
				first = text
			}
			if text != first {
				t.Errorf("a call has another result when it is called again: %s; %s", first, text)
			}
			if !slices.Equal(a, r.word) || !slices.Equal(b, s.word) || !slices.Equal(x.left, cells) || string(code.Encode(x.c)) != bytes {
				t.Error("an argument has changed")
			}
		}
	})
}

// spoiled returns results as text, and overwrites them, one after the other; those behind have to stay as they are.
func (x test) spoiled(t *testing.T, a, b []int) string {
	t.Helper()
	swap, _, _ := commute.Swap(x.c, x.e, x.left, a, 1)
	normal, _ := commute.Normal(x.c, x.e, x.left, a)
	way, _ := commute.Way(x.c, x.e, x.left, a, b)
	commute.Check(x.c, x.e, x.left, a, b, way)
	words, _ := commute.Classes(x.c, x.e, x.left, api.MaxGraph)
	ends, _ := commute.Ends(x.c, x.e, x.left, api.MaxGraph)
	words = append([][]int{swap, normal, way}, words...)
	text := fmt.Sprintf("%v %+v", words, ends)
	for i, l := range words {
		want := fmt.Sprint(words[i+1:])
		spoil(l)
		if fmt.Sprint(words[i+1:]) != want {
			t.Error("P12.7: two results share memory")
		}
	}
	for i, s := range ends {
		want := fmt.Sprintf("%+v", ends[i+1:])
		scribble(s)
		if fmt.Sprintf("%+v", ends[i+1:]) != want {
			t.Error("P12.8: two results share memory")
		}
	}
	return text
}

func spoil(l []int) {
	l = l[:cap(l)]
	for i := range l {
		l[i] = -777
	}
}

// scribble overwrites the memory of a state.
func scribble(s machine.State) {
	spoil(s.Vars)
	spoil(s.Owners)
	spoil(s.Files)
	for _, q := range s.Queues {
		spoil(q)
	}
	for _, thread := range s.Threads {
		spoil(thread.Stack)
		for _, f := range thread.Frames {
			spoil(f.Locals)
		}
		clear(thread.Frames)
	}
	clear(s.Queues)
	clear(s.Threads)
}
