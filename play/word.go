package play

import (
	"slices"

	"culprit/api"
	"culprit/hash"
	"culprit/machine"
	"culprit/wire"
)

const maxParts = 16 // the greatest number of parts, and the greatest part, of a choice by a seed

// Choice returns the choice by a seed in a state at a point.
func Choice(s machine.State, p machine.Point, seed int) int {
	sum, ok := sumOf(p.Parts)
	if !ok {
		return 0
	}
	// The choice of a thread and that of what it does have the same Steps.
	i := 2 * s.Cost.Steps
	if s.Picked >= 0 {
		i++
	}
	d := hash.Of(api.TagSeed, string(wire.Ints([]int{seed, i})))
	v := (int(d[0])<<16 | int(d[1])<<8 | int(d[2])) % sum
	k := 0
	for v >= p.Parts[k] {
		v -= p.Parts[k]
		k++
	}
	return k
}

// sumOf returns the sum of parts, and whether a seed chooses between them.
func sumOf(parts []int) (int, bool) {
	if len(parts) < 2 || len(parts) > maxParts {
		return 0, false
	}
	sum := 0
	for _, part := range parts {
		if part < 1 || part > maxParts {
			return 0, false
		}
		sum += part
	}
	return sum, true
}

// Word returns the numbers of the choices of a run.
func Word(r Run) []int {
	var word []int
	for _, m := range r.Moves {
		word = append(word, m.K)
	}
	return word
}

// Trim returns a word without the noughts at its end.
func Trim(word []int) []int { return slices.Clone(trimmed(word)) }

// trimmed returns the part of a word ahead of the noughts at its end.
func trimmed(word []int) []int {
	n := len(word)
	for n > 0 && word[n-1] == 0 {
		n--
	}
	return word[:n]
}

// Less reports whether a word is before another one.
func Less(a, b []int) bool {
	a, b = trimmed(a), trimmed(b)
	if len(a) != len(b) {
		return len(a) < len(b)
	}
	return slices.Compare(a, b) < 0
}
