package play

import (
	"slices"
	"strconv"

	"culprit/api"
	"culprit/machine"
)

// Same reports whether two runs are equal in all fields.
func Same(a, b Run) bool {
	return a.Result == b.Result &&
		slices.EqualFunc(a.Moves, b.Moves, sameMove) &&
		slices.Equal(a.Threads, b.Threads) &&
		slices.EqualFunc(a.Access, b.Access, slices.Equal[[]machine.Access]) &&
		slices.Equal(a.Left, b.Left)
}

func sameMove(a, b Move) bool {
	p, q := a.Point, b.Point
	return a.K == b.K && p.Kind == q.Kind && p.Thread == q.Thread && p.PC == q.PC && slices.Equal(p.Parts, q.Parts)
}

// Print returns the lines of the printed form of a run.
func Print(r Run) []string {
	var lines []string
	for _, m := range r.Moves {
		lines = append(lines, printMove(m))
	}
	return append(lines, printResult(r.Result))
}

func printMove(m Move) string {
	p := m.Point
	line := wordOf(p.Kind, "pick", "draw", "deliver", "jump", "lose") + " " + strconv.Itoa(m.K) + " of " + strconv.Itoa(len(p.Parts))
	if p.Thread >= 0 {
		line += " by " + strconv.Itoa(p.Thread) + " at " + strconv.Itoa(p.PC)
	}
	return line
}

func printResult(r api.Result) string {
	line := wordOf(r.Outcome, "passed", "failed", "stuck", "late", "broken")
	if r.Outcome != api.Passed {
		line += " at " + r.Where + "/" + strconv.Itoa(r.Site)
	}
	return line + " after " + strconv.Itoa(r.Cost.Steps) + " steps"
}

// wordOf returns the word of a kind or an outcome, or a question mark, if it
// has none.
func wordOf(i int, words ...string) string {
	if i < 0 || i >= len(words) {
		return "?"
	}
	return words[i]
}
