package cause

import (
	"cmp"
	"slices"

	"culprit/api"
	"culprit/hash"
	"culprit/wire"
)

// A row is what makes a cause known again in other runs, where its choice may
// have another number.
type row struct {
	kind, pc    int
	where, name string
}

// Key returns the digest of what is known again of causes.
func Key(l []Cause) api.Digest {
	var b []byte
	for _, r := range rowsOf(l) {
		b = append(b, wire.Ints([]int{r.kind, r.pc})...)
		b = append(b, wire.Strings([]string{r.where, r.name})...)
	}
	return hash.Of(api.TagCause, string(b))
}

// rowsOf returns the different rows of causes, sorted.
func rowsOf(l []Cause) []row {
	var rows []row
	known := map[row]bool{}
	for _, x := range l {
		r := row{kind: x.Kind, pc: x.PC, where: x.Where, name: x.Name}
		if !known[r] {
			known[r] = true
			rows = append(rows, r)
		}
	}
	slices.SortFunc(rows, compare)
	return rows
}

func compare(a, b row) int {
	return cmp.Or(cmp.Compare(a.kind, b.kind), cmp.Compare(a.where, b.where), cmp.Compare(a.name, b.name), cmp.Compare(a.pc, b.pc))
}
