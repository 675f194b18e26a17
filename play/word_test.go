package play_test

import (
	"cmp"
	"crypto/sha256"
	"math"
	"slices"
	"strings"
	"testing"

	"culprit/api"
	"culprit/machine"
	"culprit/play"
	"culprit/wire"
)

// refChoice does by the words of the chapter what Choice does.
func refChoice(s machine.State, p machine.Point, seed int) int {
	sum := 0
	for _, part := range p.Parts {
		if len(p.Parts) == 1 || len(p.Parts) > 16 || part < 1 || part > 16 {
			return 0
		}
		sum += part
	}
	if sum == 0 {
		return 0
	}
	i := 2 * s.Cost.Steps
	if s.Picked > -1 {
		i += 1
	}
	d := sha256.Sum256(append([]byte{15}, wire.Bytes(string(wire.Ints([]int{seed, i})))...))
	v := (65536*int(d[0]) + 256*int(d[1]) + int(d[2])) % sum
	k, first := 0, p.Parts[0]
	for ; first <= v; first += p.Parts[k] {
		k++
	}
	return k
}

func equal(n, part int) []int {
	l := make([]int, n)
	for i := range l {
		l[i] = part
	}
	return l
}

// TestChoiceInStates compares with a separate calculation, for Steps and Picked at the edges.
func TestChoiceInStates(t *testing.T) {
	for seed, want := range map[int]string{
		0:           "3 0 0 3 0 1 12 12 1 12 10 12 12 10 12 10 0 0 10 0 3 0 0 3 0 10 0 0 10 0",
		1:           "11 9 9 11 9 2 12 12 2 12 6 6 6 6 6 15 10 10 15 10 11 9 9 11 9 15 10 10 15 10",
		2:           "11 5 5 11 5 4 7 7 4 7 9 3 3 9 3 7 3 3 7 3 11 5 5 11 5 7 3 3 7 3",
		-1:          "14 13 13 14 13 10 14 14 10 14 1 3 3 1 3 6 7 7 6 7 14 13 13 14 13 6 7 7 6 7",
		math.MinInt: "10 5 5 10 5 3 8 8 3 8 10 0 0 10 0 9 7 7 9 7 10 5 5 10 5 9 7 7 9 7",
		math.MaxInt: "9 13 13 9 13 4 6 6 4 6 13 7 7 13 7 7 2 2 7 2 9 13 13 9 13 7 2 2 7 2",
	} {
		var got []int
		for _, steps := range []int{0, 1, 63, -1, math.MinInt, math.MaxInt} {
			for _, picked := range []int{-1, 0, 4, math.MinInt, math.MaxInt} {
				s := machine.State{Picked: picked, Cost: api.Cost{Steps: steps, Allocs: 5, Waits: 6}, Clock: 7, Fuel: 8}
				got = append(got, play.Choice(s, machine.Point{Kind: seed, Parts: equal(16, 1)}, seed))
			}
		}
		if numbers(got) != want {
			t.Errorf("P10.2: Choice by the seed %d: %s; want %s", seed, numbers(got), want)
		}
	}
}

// TestChoiceOfParts compares with a separate calculation, for parts that differ.
func TestChoiceOfParts(t *testing.T) {
	for _, c := range []struct {
		parts []int
		want  string
	}{
		{[]int{13, 3}, "0 0 1 0 0 1 0 0 0 1 0 0 0 0 1 1 0 0 0 0 0 0 1 1"},
		{[]int{1, 2}, "1 1 0 0 0 1 1 1 1 1 0 1 1 1 0 1 1 0 1 1 0 1 0 1"},
		{equal(16, 16), "3 5 1 15 8 3 4 10 12 1 14 1 15 12 14 3 14 2 11 0 4 6 7 3"},
		{[]int{1, 16}, "1 1 1 1 1 1 1 1 1 0 1 1 1 1 1 1 1 1 1 1 1 1 1 1"},
		{[]int{16, 1}, "0 0 0 0 0 0 1 0 0 0 0 0 0 0 0 0 0 0 0 0 0 0 0 0"},
		{equal(5, 1), "3 4 4 1 2 1 2 1 2 3 1 3 2 0 2 3 1 0 2 1 4 0 1 0"},
		{equal(7, 1), "0 5 5 5 5 4 5 3 2 5 0 1 3 2 4 0 0 1 5 1 5 5 6 0"},
		{[]int{3, 4, 6}, "2 2 2 0 2 1 1 2 2 2 0 2 2 0 2 2 0 1 1 1 1 0 2 1"},
		{[]int{9, 10}, "1 1 1 0 0 0 0 1 1 0 0 0 1 1 1 1 1 0 1 0 1 1 1 1"},
		{[]int{16, 1, 16, 2, 16, 3, 16, 4, 16, 5}, "8 6 4 8 8 0 6 7 4 0 6 2 8 6 8 2 8 6 6 2 0 2 5 9"},
		{[]int{1, 2, 3, 4, 5, 6, 7, 8, 9, 10, 11, 12, 13, 14, 15, 16}, "13 5 8 3 15 12 5 1 12 14 14 8 1 9 12 14 12 8 6 15 10 12 11 2"},
	} {
		var got []int
		for seed := range 24 {
			got = append(got, play.Choice(machine.State{Picked: -1, Cost: api.Cost{Steps: 2}}, machine.Point{Parts: c.parts}, seed))
		}
		if numbers(got) != c.want {
			t.Errorf("P10.2: Choice of the parts %v: %s; want %s", c.parts, numbers(got), c.want)
		}
	}
}

// TestChoiceOfOtherPoints: at points at which a seed does not choose, it is 0.
func TestChoiceOfOtherPoints(t *testing.T) {
	others := [][]int{nil, {}, {0}, {1}, {5}, {16}, {17}, {-1}, equal(17, 1), equal(17, 16), equal(5000, 1), make([]int, 16)}
	for _, odd := range []int{0, -1, 17, math.MinInt, math.MaxInt} {
		others = append(others, []int{odd, 1}, []int{1, odd}, []int{16, 16, odd}, []int{odd, odd}, append(equal(15, 2), odd), []int{1, odd, 16}, append(equal(16, 2), odd))
	}
	for _, parts := range others {
		for seed := range 30 {
			for _, picked := range []int{-1, 0} {
				if k := play.Choice(machine.State{Picked: picked, Cost: api.Cost{Steps: seed}}, machine.Point{Parts: parts}, seed); k != 0 {
					t.Fatalf("P10.2: Choice of the parts %v by the seed %d: %d", parts, seed, k)
				}
			}
		}
	}
}

// TestChoiceIsFair: each alternative is chosen about as often as its part says.
func TestChoiceIsFair(t *testing.T) {
	const seeds = 6000
	for _, parts := range [][]int{{13, 3}, {1, 1}, {8, 8}, {1, 1, 1}, equal(6, 1), {1, 2, 3}} {
		sum := 0
		for _, part := range parts {
			sum += part
		}
		seen := make([]int, len(parts))
		for seed := range seeds {
			seen[play.Choice(machine.State{Picked: 0, Cost: api.Cost{Steps: 3}}, machine.Point{Parts: parts}, seed)]++
		}
		for k, n := range seen {
			if want := seeds * parts[k] / sum; n < want-200 || n > want+200 {
				t.Errorf("P10.2: the alternative %d of %v is chosen %d times, not about %d times", k, parts, n, want)
			}
		}
	}
}

// TestSeeded: words with a number for each choice, also noughts at the end, and choices that come up only behind others.
func TestSeeded(t *testing.T) {
	x := started{c: compiled(t, "file f;", "test t { write f 7; draw $a 6; sleep 3; draw $b 2; if $b { draw $a 3; } read f $c; check $c == 7; }"), e: api.Env{Fault: 3}}
	lengths, zeroes := map[int]int{}, 0
	for seed := -30; seed < 60; seed++ {
		step := func(n int, parts ...int) int {
			return refChoice(machine.State{Picked: -1, Cost: api.Cost{Steps: n}}, machine.Point{Parts: parts}, seed)
		}
		want := []int{step(0, 13, 3), step(1, 1, 1, 1, 1, 1, 1), step(3, 1, 1)}
		if want[2] == 1 {
			want = append(want, step(4, 1, 1, 1))
		}
		if got := x.seeded(t, seed); !slices.Equal(got, want) {
			t.Errorf("P10.2: Seeded of %d: %v; want %v", seed, got, want)
		}
		if lengths[len(want)]++; want[len(want)-1] == 0 {
			zeroes++
		}
	}
	if lengths[3] < 20 || lengths[4] < 20 || zeroes < 20 {
		t.Errorf("the words have the lengths %v, and %d of them end with 0", lengths, zeroes)
	}
	if word := (started{c: compiled(t, "test t { sleep 4; }")}).seeded(t, 7); len(word) != 0 {
		t.Errorf("P10.2: Seeded without choices: %v", word)
	}
}

// words returns all words of some numbers with at most a length.
func words(most int, numbers ...int) [][]int {
	l := [][]int{nil}
	for begin := 0; most > 0; most-- {
		end := len(l)
		for _, w := range l[begin:end] {
			for _, n := range numbers {
				l = append(l, append(slices.Clone(w), n))
			}
		}
		begin = end
	}
	return l
}

// refTrim cuts a word by its text.
func refTrim(word []int) string { return strings.TrimRight(" "+numbers(word)+" ", " 0") }

func TestTrim(t *testing.T) {
	for _, c := range [][2][]int{
		{nil, nil}, {{0}, nil}, {{0, 0, 0}, nil}, {{1}, {1}}, {{1, 0}, {1}}, {{0, 1}, {0, 1}}, {{0, 1, 0, 0}, {0, 1}}, {{-1, 0}, {-1}},
		{{3, 0, 2, 0}, {3, 0, 2}}, {{10, 0}, {10}}, {{math.MinInt, 0}, {math.MinInt}}, {noughts(300, 1, 0), noughts(300, 1)}, {noughts(300), nil},
	} {
		before := slices.Clone(c[0])
		got := play.Trim(c[0])
		if !slices.Equal(got, c[1]) {
			t.Errorf("P10.4: Trim of %v: %v", c[0], got)
		}
		spoil(got)
		if !slices.Equal(c[0], before) {
			t.Errorf("P10.4: the result of Trim of %v shares memory", before)
		}
	}
}

func TestLess(t *testing.T) {
	for _, c := range []struct {
		a, b []int
		want bool
	}{
		{[]int{2}, []int{0, 1}, true}, {[]int{0, 1}, []int{1, 0}, false}, {nil, nil, false}, {nil, []int{0}, false}, {[]int{0, 0}, nil, false},
		{nil, []int{1}, true}, {[]int{1}, nil, false}, {nil, []int{-1}, true}, {[]int{5}, []int{0, 1}, true}, {[]int{0, 1}, []int{5, 0, 0}, false},
		{[]int{1, 0}, []int{0, 1}, true}, {[]int{1, 2}, []int{1, 3}, true}, {[]int{1, 2, 0}, []int{1, 3}, true}, {[]int{2, 1}, []int{1, 3}, false},
		{[]int{-1}, []int{1}, true}, {[]int{math.MinInt}, []int{math.MaxInt}, true}, {[]int{math.MaxInt}, []int{math.MinInt}, false},
		{[]int{1, 2}, []int{1, 2}, false}, {[]int{1, 2}, []int{1, 2, 0}, false}, {noughts(200), []int{1}, true}, {noughts(200, 1), []int{9}, false},
	} {
		if got := play.Less(c.a, c.b); got != c.want {
			t.Errorf("P10.4: Less of %v and %v: %t", c.a, c.b, got)
		}
	}
}

// TestOrder: of two words that differ, one is before the other one, and it is the one with the lesser length and numbers.
func TestOrder(t *testing.T) {
	l := words(4, 0, 1, 2, -1)
	compare := func(a, b []int) int {
		a, b = play.Trim(a), play.Trim(b)
		if len(a) != len(b) {
			return cmp.Compare(len(a), len(b))
		}
		return slices.Compare(a, b)
	}
	for _, a := range l {
		for _, b := range l {
			before, behind := play.Less(a, b), play.Less(b, a)
			if differ := refTrim(a) != refTrim(b); before && behind || (before || behind) != differ {
				t.Fatalf("P10.10: %v and %v: %t, %t", a, b, before, behind)
			}
			if before != (compare(a, b) < 0) {
				t.Fatalf("P10.4: Less of %v and %v: %t", a, b, before)
			}
		}
	}
	l = words(3, 0, 1, -1)
	for _, a := range l {
		for _, b := range l {
			for _, c := range l {
				if play.Less(a, b) && play.Less(b, c) && !play.Less(a, c) {
					t.Fatalf("P10.10: %v, %v and %v are not in an order", a, b, c)
				}
			}
		}
	}
}

func TestWord(t *testing.T) {
	if l := play.Word(play.Run{Threads: []int{1}}); len(l) != 0 {
		t.Errorf("P10.4: Word of a run without choices: %v", l)
	}
	r := play.Run{}
	want := []int{0, 3, -1, 0, math.MaxInt, math.MinInt, 0}
	for _, k := range want {
		r.Moves = append(r.Moves, play.Move{K: k, Point: machine.Point{Kind: 4, Thread: 5, PC: 6, Parts: []int{7}}})
	}
	if l := play.Word(r); !slices.Equal(l, want) {
		t.Errorf("P10.4: Word: %v; want %v", l, want)
	}
}
