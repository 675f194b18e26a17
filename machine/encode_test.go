package machine_test

import (
	"bytes"
	"encoding/hex"
	"math"
	"slices"
	"strings"
	"testing"

	"culprit/api"
	"culprit/machine"
)

// oddStates has states that are not valid for any code, and one that may be.
func oddStates() []machine.State {
	return []machine.State{
		{},
		{
			Threads: []machine.Thread{{Frames: []machine.Frame{{PC: 7, Locals: []int{-1, 2}}, {PC: 300}}, Stack: []int{5, -256}, Wake: 9}, {Ended: true}},
			Queues:  [][]int{nil, {1, -2}}, Vars: []int{math.MinInt, math.MaxInt}, Owners: []int{-1, 0}, Files: []int{4},
			Clock: 1 << 20, Fuel: 63, Cost: api.Cost{Steps: 1, Allocs: 2, Waits: 3}, Picked: -1, Outcome: -1,
		},
		{
			Threads: []machine.Thread{{Frames: []machine.Frame{{}}}},
			Clock:   2, Cost: api.Cost{Steps: 64, Allocs: 256, Waits: 65536}, Picked: -1, Outcome: 3, Site: 17, Where: "ab\x00",
		},
		{
			Threads: []machine.Thread{{Stack: []int{1}, Wake: -1, Ended: true}, {Frames: []machine.Frame{{PC: -5}}, Wake: 1 << 40, Ended: true}},
			Queues:  [][]int{{0}}, Vars: []int{0},
			Clock: -1, Fuel: -2, Cost: api.Cost{Steps: -3, Allocs: -4, Waits: -5}, Picked: -6, Outcome: -7, Site: -8, Where: strings.Repeat("x", 300),
		},
	}
}

// TestEncode compares with the bytes and digests of a separate calculation.
func TestEncode(t *testing.T) {
	for i, want := range [][2]string{
		{"810a" + strings.Repeat("80", 10) + "810180" + "808080", "7265aefb9e3c929003f40d7895ac3a1e"},
		{"810a8102810283100000813f8101810281037f7f8081018081038109808102810381077f8102810182012c810281057e00810380810180808102778000000000000000887fffffffffffffff80810281017efe81027f8081018104", "36dc2aa5ebd4afcf2c415020d7a03c50"},
		{"810a8101808102808140820100830100007f810381118101810361620081038080810181018080808080", "4e858b7fdba453c31ff09a0007f46285"},
		{"810a810281017f7efe7efd7efc7efb7efa7ef97ef8810182012c" + strings.Repeat("78", 300) + "81037f810180810181018103860100000000008101810181017efb808101808101808080", "356bf7daae25cee0315ec1741a329c48"},
	} {
		s := oddStates()[i]
		if got := hex.EncodeToString(machine.Encode(s)); got != want[0] {
			t.Errorf("P9.6: Encode of state %d: %s; want %s", i, got, want[0])
		}
		if got := machine.Digest(s); hex.EncodeToString(got[:]) != want[1] {
			t.Errorf("P9.6: Digest of state %d: %x; want %s", i, got, want[1])
		}
	}
}

// differences returns changes of the second one of oddStates, no two of which make the same state, and none of which leaves it as it is.
func differences() []change {
	frames := func(l ...machine.Frame) change {
		return func(_ program, s *machine.State) { s.Threads[0].Frames = l }
	}
	two := machine.Frame{PC: 300}
	l := []change{
		frames(), frames(two), frames(machine.Frame{PC: 7, Locals: []int{-1, 2}}), frames(two, machine.Frame{PC: 7, Locals: []int{-1, 2}}),
		frames(machine.Frame{PC: 8, Locals: []int{-1, 2}}, two), frames(machine.Frame{PC: -1, Locals: []int{7, 2}}, two),
		frames(machine.Frame{PC: 7, Locals: []int{-1}}, two), frames(machine.Frame{PC: 7, Locals: []int{-1, 2, 0}}, two), frames(machine.Frame{PC: 7, Locals: []int{2, -1}}, two), frames(machine.Frame{PC: 7, Locals: []int{-1, 2, 300}}),
		frames(machine.Frame{PC: 7, Locals: []int{-1}}, machine.Frame{PC: 300, Locals: []int{2}}), frames(machine.Frame{PC: 7, Locals: []int{-1, 2}}, two, machine.Frame{}),
		stack(0), stack(0, 5), stack(0, -256, 5), stack(0, 5, -256, 0), stack(0, 5, -255), wake(0, 10), wake(0, 0), wake(1, 1),
		thread(1, machine.Thread{}), thread(0, machine.Thread{Ended: true}), thread(1, machine.Thread{Ended: true, Stack: []int{0}}), thread(1, machine.Thread{Ended: true, Frames: []machine.Frame{{}}}),
		threads(0), threads(1), threads(3), func(_ program, s *machine.State) { s.Threads[0].Ended = true }, func(_ program, s *machine.State) { slices.Reverse(s.Threads) },
		vars(), vars(math.MinInt), vars(math.MinInt, math.MaxInt, 0), vars(math.MaxInt, math.MinInt), vars(math.MinInt, math.MaxInt-1),
		queues(), queues(nil), queues([]int{1, -2}), queues([]int{1, -2}, nil), queues([]int{1}, []int{-2}), queues(nil, []int{1}), queues(nil, []int{-2, 1}), queues(nil, []int{1, -2}, nil), queues([]int{0}, []int{1, -2}),
		owners(), owners(-1), owners(0, -1), owners(-1, 0, 0), owners(-1, 1), files(), files(4, 0), files(5), files(-4),
		all(owners(-1), files(0, 4)), all(owners(-1, 0, 4), files()), all(vars(math.MinInt), owners(math.MaxInt, -1, 0)),
		clock(1<<20 + 1), clock(-1), fuel(62), fuel(-63), steps(2), steps(0), allocs(3), allocs(-2), waits(4), waits(0),
		all(steps(2), allocs(1)), all(allocs(3), waits(2)), all(clock(63), fuel(1<<20)), picked(0), picked(-2), outcome(0), outcome(4), all(picked(0), outcome(0)), site(1), site(-1), where("a"), where("b"), where("\x00"), where("ab"),
	}
	return l
}

// TestSame: states that differ in one place, or have an element in another list.
func TestSame(t *testing.T) {
	states := oddStates()
	for _, c := range differences() {
		s := copyState(oddStates()[1])
		c(program{}, &s)
		states = append(states, s)
	}
	for i, a := range states {
		for j, b := range states {
			checkSame(t, a, b, i == j)
		}
	}
	if len(states) < 80 {
		t.Errorf("only %d states", len(states))
	}
}

// checkSame examines Same, and whether encodings and digests tell states apart.
func checkSame(t *testing.T, a, b machine.State, want bool) {
	t.Helper()
	before := show(a) + show(b)
	if machine.Same(a, b) != want {
		t.Errorf("P9.6: Same of\n%s and\n%s: %t", show(a), show(b), !want)
	}
	if bytes.Equal(machine.Encode(a), machine.Encode(b)) != want || (machine.Digest(a) == machine.Digest(b)) != want {
		t.Errorf("P9.10: the encodings or digests of\n%s and\n%s are the same: %t", show(a), show(b), !want)
	}
	if show(a)+show(b) != before {
		t.Errorf("P9.6: a state has changed: %s", before)
	}
}

// TestSameEmpty: lists that are nil are empty ones.
func TestSameEmpty(t *testing.T) {
	a := machine.State{Threads: []machine.Thread{{Frames: []machine.Frame{{}}}, {}}, Queues: [][]int{nil}}
	b := machine.State{
		Threads: []machine.Thread{{Frames: []machine.Frame{{Locals: []int{}}}, Stack: []int{}}, {Frames: []machine.Frame{}, Stack: []int{}}},
		Vars:    []int{}, Queues: [][]int{{}}, Owners: []int{}, Files: []int{},
	}
	checkSame(t, a, b, true)
	checkSame(t, machine.State{}, machine.State{Threads: []machine.Thread{}, Queues: [][]int{}}, true)
	checkSame(t, a, machine.State{}, false)
}
