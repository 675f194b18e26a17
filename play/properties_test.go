package play_test

import (
	"slices"
	"strconv"
	"testing"

	"culprit/api"
	"culprit/code"
	"culprit/machine"
	"culprit/play"
)

// TestReference compares Play and States with the reference, also for words that are none of the code.
func TestReference(t *testing.T) {
	seen := count{}
	runs(t, 1500, func(m maker, x started, full []int) {
		for i := range 4 {
			word := full
			if i > 0 {
				word = m.otherWord(full)
			}
			want, states, wantE := refPlay(x, word)
			r, e := play.Play(x.c, x.e, x.left, word)
			if e != wantE || show(r) != show(want) {
				t.Errorf("P10.1: Play of %v: %v\n%s; want %v\n%s", word, e, show(r), wantE, show(want))
			}
			l, e := play.States(x.c, x.e, x.left, word)
			if e != wantE || !slices.EqualFunc(l, states, machine.Same) {
				t.Errorf("P10.1: States of %v: %v\n%swant %v\n%s", word, e, showStates(l), wantE, showStates(states))
			}
			if seen["error "+strconv.Itoa(int(e))]++; e == api.OK {
				seen.run(r)
			}
		}
	})
	for _, e := range []api.Errno{api.OK, api.ErrRange, api.ErrMore} {
		seen.check(t, 500, "error "+strconv.Itoa(int(e)))
	}
	seen.check(t, 100, append(kindNames, outcomeNames...)...)
	seen.check(t, 100, "no steps", "broken step", "broken behind a step")
}

// TestAgainByItsWord: the run by what Word returns is the same run.
func TestAgainByItsWord(t *testing.T) {
	trimmed := 0
	runs(t, 1500, func(m maker, x started, full []int) {
		word := full[:m.IntN(len(full)+1)]
		r := x.play(t, word)
		again := play.Word(r)
		if len(again) != len(r.Moves) || !slices.Equal(play.Trim(again), play.Trim(word)) {
			t.Errorf("P10.6: Word of the run by %v: %v", word, again)
		}
		short := play.Trim(again)
		if len(short) < len(again) {
			trimmed++
		}
		for _, w := range [][]int{again, short, append(slices.Clone(again), 0), append(slices.Clone(short), make([]int, 160-len(short))...)} {
			if s := x.play(t, w); !play.Same(s, r) || show(s) != show(r) {
				t.Errorf("P10.6: the runs by %v and %v:\n%s\n%s", word, w, show(r), show(s))
			}
		}
	})
	if trimmed < 500 {
		t.Errorf("only %d words end with 0", trimmed)
	}
}

// TestStates: each state of a run is the one behind an alternative of the one ahead of it.
func TestStates(t *testing.T) {
	seen := count{}
	runs(t, 1500, func(m maker, x started, word []int) {
		r, states := x.play(t, word), x.states(t, word)
		seen.run(r)
		first, _ := machine.Start(x.c, x.e, x.left)
		if len(states) == 0 || !machine.Same(states[0], first) {
			t.Fatal("P10.7: the first state is not that of Start")
		}
		moves, steps, picks := 0, 0, 0
		for i, s := range states {
			if over := i == len(states)-1; (s.Outcome != -1) != over {
				t.Fatalf("P10.7: the state %d of %d has the outcome %d", i, len(states), s.Outcome)
			} else if over {
				break
			}
			p, _ := machine.Next(x.c, x.e, s)
			k := 0
			if len(p.Parts) > 1 {
				if moves == len(r.Moves) || !play.Same(play.Run{Moves: []play.Move{{Point: p, K: r.Moves[moves].K}}}, play.Run{Moves: r.Moves[moves : moves+1]}) {
					t.Fatalf("P10.1: the choice %d at %v of %s", moves, p, show(r))
				}
				k = r.Moves[moves].K
				moves++
			}
			behind, l, e := machine.Do(x.c, x.e, s, k)
			if e != api.OK || !machine.Same(behind, states[i+1]) {
				t.Fatalf("P10.7: the state %d is not the one behind %d", i+1, k)
			}
			if p.Thread == -1 {
				picks++
				continue
			}
			if steps == len(r.Threads) || steps == len(r.Access) || r.Threads[steps] != p.Thread || !slices.Equal(r.Access[steps], l) {
				t.Fatalf("P10.1: the step %d at %v with %v of %s", steps, p, l, show(r))
			}
			steps++
		}
		checkNumbers(t, r, states, moves, steps, picks)
	})
	seen.check(t, 50, "no steps", "broken step", "broken behind a step", "pick")
}

// checkNumbers examines how many choices, steps and states a run has, and what its last state says.
func checkNumbers(t *testing.T, r play.Run, states []machine.State, moves, steps, picks int) {
	t.Helper()
	last := states[len(states)-1]
	if moves != len(r.Moves) || steps != len(r.Threads) || steps != len(r.Access) || len(states) != 1+steps+picks {
		t.Errorf("P10.7: %d choices, %d steps, %d picks, %d states of %s", moves, steps, picks, len(states), show(r))
	}
	if more := steps - r.Result.Cost.Steps; more != 0 && (more != 1 || r.Result.Outcome != api.Broken) {
		t.Errorf("P10.7: %d steps of %s", steps, show(r))
	}
	if r.Result != (api.Result{Outcome: last.Outcome, Where: last.Where, Site: last.Site, Cost: last.Cost, Root: refRoot(states)}) {
		t.Errorf("P10.1: the result %v of a run with the last state %v", r.Result, last)
	}
	if root, e := play.Root(states); e != api.OK || root != r.Result.Root {
		t.Errorf("P10.3: Root: %v, %x; want %x", e, root, r.Result.Root)
	}
}

// TestSeeds: the word of a seed has the choices by it, and is that of its run.
func TestSeeds(t *testing.T) {
	seen := count{}
	runs(t, 2500, func(m maker, x started, _ []int) {
		seed := []int{m.IntN(10), -m.IntN(1000), int(m.Uint64())}[m.IntN(3)]
		word := x.seeded(t, seed)
		r := x.play(t, word)
		seen.run(r)
		if !slices.Equal(play.Word(r), word) {
			t.Errorf("P10.8: the word %v of the seed %d has a run with %v", word, seed, play.Word(r))
		}
		for _, s := range x.states(t, word) {
			if p, _ := machine.Next(x.c, x.e, s); len(p.Parts) > 1 {
				if k := refChoice(s, p, seed); k != word[0] || k != play.Choice(s, p, seed) {
					t.Errorf("P10.2: the word of the seed %d goes on with %v, the choice is %d", seed, word, k)
				}
				word = word[1:]
			}
		}
	})
	seen.check(t, 50, append(kindNames, outcomeNames...)...)
}

// TestChanged: another number in a word changes nothing ahead of it.
func TestChanged(t *testing.T) {
	seen := count{}
	runs(t, 1500, func(m maker, x started, word []int) {
		if len(word) == 0 {
			return
		}
		r, states := x.play(t, word), x.states(t, word)
		i := m.IntN(len(word))
		n := len(r.Moves[i].Point.Parts)
		other := slices.Clone(word[:i+1])
		other[i] = (word[i] + 1 + m.IntN(n-1)) % n
		s, otherStates := x.play(t, other), x.states(t, other)
		if len(s.Moves) <= i || s.Moves[i].K != other[i] {
			t.Fatalf("P10.9: the run by %v: %s", other, show(s))
		}
		s.Moves[i].K = word[i]
		if !play.Same(play.Run{Moves: r.Moves[:i+1]}, play.Run{Moves: s.Moves[:i+1]}) {
			t.Errorf("P10.9: the choices of %v and %v:\n%s\n%s", word, other, show(r), show(s))
		}
		at := pointsAhead(x, states, i)
		steps := states[at].Cost.Steps
		if len(otherStates) <= at || !slices.EqualFunc(states[:at+1], otherStates[:at+1], machine.Same) {
			t.Fatalf("P10.9: the states ahead of the choice %d of %v and %v", i, word, other)
		}
		if !play.Same(play.Run{Threads: r.Threads[:steps], Access: r.Access[:steps]}, play.Run{Threads: s.Threads[:steps], Access: s.Access[:steps]}) {
			t.Errorf("P10.9: the steps of %v and %v:\n%s\n%s", word, other, show(r), show(s))
		}
		if seen["changed"]++; steps > 0 {
			seen["steps ahead"]++
		}
	})
	seen.check(t, 500, "changed", "steps ahead")
}

// pointsAhead returns the index of the state in which a run makes its choice i.
func pointsAhead(x started, states []machine.State, i int) int {
	for at, s := range states {
		if p, _ := machine.Next(x.c, x.e, s); len(p.Parts) > 1 {
			if i == 0 {
				return at
			}
			i--
		}
	}
	return -1
}

// TestMemoryIsNew: arguments stay as they are, and results share no memory.
func TestMemoryIsNew(t *testing.T) {
	runs(t, 150, func(m maker, x started, word []int) {
		wantWord, wantLeft, wantCode := slices.Clone(word), slices.Clone(x.left), codeOf(x)
		for range 2 {
			r, states := x.play(t, word), x.states(t, word)
			want, wantStates := show(r), showStates(states)
			scribble(x.play(t, word))
			scribbleStates(t, x.states(t, word))
			spoil(x.seeded(t, 3))
			w, short := play.Word(r), play.Trim(word)
			spoil(w)
			spoil(short)
			if _, e := play.Root(states); e != api.OK {
				t.Error(e)
			}
			play.Less(word, word[:len(word)/2])
			play.Print(r)
			if show(r) != want || showStates(states) != wantStates {
				t.Error("P10.1: a result shares memory with another one")
			}
			if !slices.Equal(word, wantWord) || !slices.Equal(x.left, wantLeft) || codeOf(x) != wantCode {
				t.Error("P10.1: an argument has changed")
			}
		}
	})
}

func codeOf(x started) string { return string(code.Encode(x.c)) }

func spoil(l []int) {
	l = l[:cap(l)]
	for i := range l {
		l[i] = -777
	}
}

// scribble overwrites all memory of a run.
func scribble(r play.Run) {
	for _, m := range r.Moves {
		spoil(m.Point.Parts)
	}
	clear(r.Moves[:cap(r.Moves)])
	spoil(r.Threads)
	for _, l := range r.Access {
		clear(l[:cap(l)])
	}
	clear(r.Access[:cap(r.Access)])
	clear(r.Left[:cap(r.Left)])
}

// scribbleStates overwrites the memory of states, one after the other; those behind have to stay as they are.
func scribbleStates(t *testing.T, l []machine.State) {
	t.Helper()
	for i, s := range l {
		want := showStates(l[i+1:])
		spoil(s.Vars)
		spoil(s.Owners)
		spoil(s.Files)
		for _, q := range s.Queues {
			spoil(q)
		}
		for _, thread := range s.Threads {
			spoil(thread.Stack)
			for _, f := range thread.Frames {
				spoil(f.Locals)
			}
			clear(thread.Frames)
		}
		clear(s.Queues)
		clear(s.Threads)
		if showStates(l[i+1:]) != want {
			t.Error("P10.1: States: two states share memory")
		}
	}
}

// TestEqualCalls: equal calls have equal results, also after others.
func TestEqualCalls(t *testing.T) {
	var first []string
	for range 2 {
		i := 0
		runs(t, 300, func(m maker, x started, word []int) {
			text := show(x.play(t, word)) + showStates(x.states(t, word))
			for _, n := range x.seeded(t, len(word)) {
				text += " " + strconv.Itoa(n)
			}
			if i == len(first) {
				first = append(first, text)
			}
			if first[i] != text {
				t.Errorf("a run differs when it is played again: %s; %s", first[i], text)
			}
			i++
		})
	}
}
