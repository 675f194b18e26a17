package shrink

import (
	"iter"
	"slices"

	"culprit/play"
)

// Smaller returns the smaller words of a word.
func Smaller(word []int) [][]int {
	var l [][]int
	for x := range variants(play.Trim(word)) {
		l = append(l, play.Trim(x))
	}
	slices.SortFunc(l, compare)
	return slices.CompactFunc(l, slices.Equal[[]int])
}

// variants yields a word with each of its numbers left out, and with each that
// is greater than 0 made 0, and made less by 1.
func variants(word []int) iter.Seq[[]int] {
	return func(yield func([]int) bool) {
		for i, n := range word {
			ahead, behind := word[:i], word[i+1:]
			if !yield(slices.Concat(ahead, behind)) {
				return
			}
			if n > 0 && !(yield(slices.Concat(ahead, []int{0}, behind)) && yield(slices.Concat(ahead, []int{n - 1}, behind))) {
				return
			}
		}
	}
}

// compare compares two words.
func compare(a, b []int) int {
	switch {
	case play.Less(a, b):
		return -1
	case play.Less(b, a):
		return 1
	}
	return 0
}
