package play_test

import (
	"math"
	"slices"
	"testing"

	"culprit/api"
	"culprit/machine"
	"culprit/play"
)

func move(kind, thread, pc, k int, parts ...int) play.Move {
	return play.Move{Point: machine.Point{Kind: kind, Thread: thread, PC: pc, Parts: parts}, K: k}
}

func TestPrintMoves(t *testing.T) {
	for _, c := range []struct {
		m    play.Move
		want string
	}{
		{move(machine.Pick, -1, -1, 2, 1, 1, 1), "pick 2 of 3"},
		{move(machine.Draws, 0, 12, 0, 1, 1), "draw 0 of 2 by 0 at 12"},
		{move(machine.Deliver, 3, 0, 1, 1, 1), "deliver 1 of 2 by 3 at 0"},
		{move(machine.Jumps, 4, 511, 1, 14, 2), "jump 1 of 2 by 4 at 511"},
		{move(machine.Loses, 64, 100, 0, 8, 8), "lose 0 of 2 by 64 at 100"},
		{move(machine.Points, 1, 2, 3), "? 3 of 0 by 1 at 2"},
		{move(-1, -1, 2, 3, 9), "? 3 of 1"},
		{move(math.MinInt, math.MinInt, 7, math.MinInt), "? -9223372036854775808 of 0"},
		{move(math.MaxInt, math.MaxInt, math.MinInt, math.MaxInt), "? 9223372036854775807 of 0 by 9223372036854775807 at -9223372036854775808"},
		{move(machine.Pick, 2, -5, -1, make([]int, 1000)...), "pick -1 of 1000 by 2 at -5"},
		{play.Move{}, "pick 0 of 0 by 0 at 0"},
	} {
		if l := play.Print(play.Run{Moves: []play.Move{c.m}}); !slices.Equal(l, []string{c.want, "passed after 0 steps"}) {
			t.Errorf("P10.5: Print of %v: %q; want %s", c.m, l, c.want)
		}
	}
	several := play.Run{Moves: []play.Move{move(0, -1, 0, 1), move(1, 0, 3, 2), move(0, -1, 0, 1)}, Threads: []int{7}, Left: []api.Cell{{Name: "x"}}}
	if l := play.Print(several); !slices.Equal(l, []string{"pick 1 of 0", "draw 2 of 0 by 0 at 3", "pick 1 of 0", "passed after 0 steps"}) {
		t.Errorf("P10.5: Print of three choices: %q", l)
	}
}

func TestPrintResults(t *testing.T) {
	for _, c := range []struct {
		r    api.Result
		want string
	}{
		{api.Result{Outcome: api.Passed, Where: "p", Site: 4, Cost: api.Cost{Steps: 12, Allocs: 3, Waits: 4}}, "passed after 12 steps"},
		{api.Result{Outcome: api.Failed, Where: "t", Cost: api.Cost{Steps: 1}}, "failed at t/0 after 1 steps"},
		{api.Result{Outcome: api.Stuck, Where: "p", Site: 4, Cost: api.Cost{Steps: 12}}, "stuck at p/4 after 12 steps"},
		{api.Result{Outcome: api.Late, Where: "q", Site: 100, Cost: api.Cost{Steps: 64}}, "late at q/100 after 64 steps"},
		{api.Result{Outcome: api.Broken, Where: "", Site: -1, Cost: api.Cost{Steps: -2}}, "broken at /-1 after -2 steps"},
		{api.Result{Outcome: api.Outcomes, Where: "a b/\n", Site: 2}, "? at a b/\n/2 after 0 steps"},
		{api.Result{Outcome: -1, Where: "t", Site: 2}, "? at t/2 after 0 steps"},
		{api.Result{Outcome: math.MaxInt, Site: math.MaxInt, Cost: api.Cost{Steps: math.MaxInt}}, "? at /9223372036854775807 after 9223372036854775807 steps"},
		{api.Result{Outcome: math.MinInt, Site: math.MinInt, Cost: api.Cost{Steps: math.MinInt}}, "? at /-9223372036854775808 after -9223372036854775808 steps"},
	} {
		if l := play.Print(play.Run{Result: c.r}); !slices.Equal(l, []string{c.want}) {
			t.Errorf("P10.5: Print of %v: %q; want %s", c.r, l, c.want)
		}
	}
}

// different returns runs no two of which are equal.
func different() []play.Run {
	base := func() play.Run {
		return play.Run{
			Result:  api.Result{Outcome: 1, Where: "t", Site: 2, Cost: api.Cost{Steps: 3, Allocs: 4, Waits: 5}, Root: api.Digest{6}},
			Moves:   []play.Move{move(1, 2, 3, 4, 5, 6), move(7, 8, 9, 10)},
			Threads: []int{0, 1},
			Access:  [][]machine.Access{{{Kind: 1, Obj: 2, Change: true}, {Kind: 3, Obj: 4}}, nil},
			Left:    []api.Cell{{Name: "a", N: 1}, {Name: "b", N: 2}},
		}
	}
	l := []play.Run{{}, base()}
	for _, change := range []func(r *play.Run){
		func(r *play.Run) { r.Result.Outcome = 0 },
		func(r *play.Run) { r.Result.Where = "" },
		func(r *play.Run) { r.Result.Where = "t\x00" },
		func(r *play.Run) { r.Result.Site = -2 },
		func(r *play.Run) { r.Result.Cost.Steps++ },
		func(r *play.Run) { r.Result.Cost.Allocs++ },
		func(r *play.Run) { r.Result.Cost.Waits++ },
		func(r *play.Run) { r.Result.Root = api.Digest{} },
		func(r *play.Run) { r.Result.Root[api.DigestSize-1]++ },
		func(r *play.Run) { r.Moves = nil },
		func(r *play.Run) { r.Moves = r.Moves[:1] },
		func(r *play.Run) { r.Moves = append(r.Moves, play.Move{}) },
		func(r *play.Run) { slices.Reverse(r.Moves) },
		func(r *play.Run) { r.Moves[0].K++ },
		func(r *play.Run) { r.Moves[1].K++ },
		func(r *play.Run) { r.Moves[1].Point.Kind++ },
		func(r *play.Run) { r.Moves[1].Point.Thread++ },
		func(r *play.Run) { r.Moves[1].Point.PC++ },
		func(r *play.Run) { r.Moves[1].Point.Parts = []int{0} },
		func(r *play.Run) { r.Moves[0].Point.Parts = []int{5} },
		func(r *play.Run) { r.Moves[0].Point.Parts = []int{6, 5} },
		func(r *play.Run) { r.Moves[0].Point.Parts = []int{5, 6, 0} },
		func(r *play.Run) { r.Threads = nil },
		func(r *play.Run) { r.Threads = []int{0} },
		func(r *play.Run) { r.Threads = []int{1, 0} },
		func(r *play.Run) { r.Threads = []int{0, 1, 0} },
		func(r *play.Run) { r.Access = nil },
		func(r *play.Run) { r.Access = r.Access[:1] },
		func(r *play.Run) { r.Access = append(r.Access, nil) },
		func(r *play.Run) { slices.Reverse(r.Access) },
		func(r *play.Run) { slices.Reverse(r.Access[0]) },
		func(r *play.Run) { r.Access = [][]machine.Access{r.Access[0][:1], r.Access[0][1:]} },
		func(r *play.Run) { r.Access[0][0].Kind++ },
		func(r *play.Run) { r.Access[0][1].Obj++ },
		func(r *play.Run) { r.Access[0][1].Change = true },
		func(r *play.Run) { r.Access[1] = make([]machine.Access, 1) },
		func(r *play.Run) { r.Left = nil },
		func(r *play.Run) { r.Left = r.Left[:1] },
		func(r *play.Run) { r.Left = append(r.Left, api.Cell{}) },
		func(r *play.Run) { slices.Reverse(r.Left) },
		func(r *play.Run) { r.Left[1].Name = "c" },
		func(r *play.Run) { r.Left[0].N = 0 },
	} {
		r := base()
		change(&r)
		l = append(l, r)
	}
	return l
}

func TestSame(t *testing.T) {
	a, b := different(), different()
	for i := range a {
		for j := range b {
			if play.Same(a[i], b[j]) != (i == j) {
				t.Errorf("P10.5: Same of\n%s and\n%s: %t", show(a[i]), show(b[j]), i != j)
			}
		}
	}
	empty := play.Run{Moves: []play.Move{}, Threads: []int{}, Access: [][]machine.Access{}, Left: []api.Cell{}}
	if !play.Same(empty, play.Run{}) || !play.Same(play.Run{}, empty) {
		t.Error("P10.5: lists that are nil are not like empty ones")
	}
	inner := play.Run{Moves: []play.Move{{Point: machine.Point{Parts: []int{}}}}, Access: [][]machine.Access{{}}}
	if !play.Same(inner, play.Run{Moves: make([]play.Move, 1), Access: make([][]machine.Access, 1)}) {
		t.Error("P10.5: lists in lists that are nil are not like empty ones")
	}
}
