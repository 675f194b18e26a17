package machine

import (
	"slices"

	"culprit/api"
	"culprit/hash"
	"culprit/wire"
)

// Encode returns the encoding of a state, which need not be valid.
func Encode(s State) []byte {
	b := wire.Ints([]int{
		len(s.Threads), len(s.Queues), s.Clock, s.Fuel, s.Cost.Steps, s.Cost.Allocs, s.Cost.Waits, s.Picked, s.Outcome, s.Site,
	})
	b = append(b, wire.Strings([]string{s.Where})...)
	ints := func(l []int) { b = append(b, wire.Ints(l)...) }
	for _, t := range s.Threads {
		ints([]int{t.Wake, truth(t.Ended), len(t.Frames)})
		for _, f := range t.Frames {
			ints(slices.Concat([]int{f.PC}, f.Locals))
		}
		ints(t.Stack)
	}
	ints(s.Vars)
	for _, queue := range s.Queues {
		ints(queue)
	}
	ints(s.Owners)
	ints(s.Files)
	return b
}

// Digest returns the digest of a state.
func Digest(s State) api.Digest { return hash.Of(api.TagState, string(Encode(s))) }

// Same reports whether two states are equal in all fields.
func Same(a, b State) bool {
	return slices.EqualFunc(a.Threads, b.Threads, sameThread) &&
		slices.Equal(a.Vars, b.Vars) &&
		slices.EqualFunc(a.Queues, b.Queues, slices.Equal[[]int]) &&
		slices.Equal(a.Owners, b.Owners) &&
		slices.Equal(a.Files, b.Files) &&
		a.Clock == b.Clock && a.Fuel == b.Fuel && a.Cost == b.Cost &&
		a.Picked == b.Picked && a.Outcome == b.Outcome && a.Site == b.Site && a.Where == b.Where
}

func sameThread(a, b Thread) bool {
	return slices.EqualFunc(a.Frames, b.Frames, sameFrame) && slices.Equal(a.Stack, b.Stack) && a.Wake == b.Wake && a.Ended == b.Ended
}

func sameFrame(a, b Frame) bool { return a.PC == b.PC && slices.Equal(a.Locals, b.Locals) }

// clone returns a copy of a state that shares no memory with it.
func clone(s State) State {
	s.Threads = slices.Clone(s.Threads)
	for i := range s.Threads {
		t := &s.Threads[i]
		t.Stack, t.Frames = slices.Clone(t.Stack), slices.Clone(t.Frames)
		for j := range t.Frames {
			t.Frames[j].Locals = slices.Clone(t.Frames[j].Locals)
		}
	}
	s.Queues = slices.Clone(s.Queues)
	for i, queue := range s.Queues {
		s.Queues[i] = slices.Clone(queue)
	}
	s.Vars, s.Owners, s.Files = slices.Clone(s.Vars), slices.Clone(s.Owners), slices.Clone(s.Files)
	return s
}
